import Derived.Test.YtijpfbcippijoaaGreatDoorAl
import Derived.Test.YtijpfbcippijoaaGreatDoorGr133
import Derived.Test.YtijpfbcippijoaaGreatDoorGr105
import Derived.Test.YtijpfbcippijoaaGreatDoorRefStr8
import Derived.Deep.QuietTactic
import Derived.BigQuiet
import Derived.BigRegion
set_option maxHeartbeats 4000000
set_option maxRecDepth 100000
namespace Go.Proofs.YtijpfbcippijoaaGreatDoor
open Go.RowKit Go.Lib
theorem ndig_of2 {u j:Nat} (hu:u≤1114111) (hj:1≤j) (h1:u / 16 ^ j=0) (h2:j=1∨1≤u / 16 ^ (j-1)) (h6:j≤6):ndig u=j:=by
 unfold ndig;have:j=1∨j=2∨j=3∨j=4∨j=5∨j=6:=by omega
 rcases this with rfl|rfl|rfl|rfl|rfl|rfl<;>simp at h1 h2<;>(repeat' split)<;>omega
theorem digTab (d:Nat) (h:d<16):(⟨#[48,49,50,51,52,53,54,55,56,57,97,98,99,100,101,102]⟩:ByteArray).extract d (d+1)=⟨[hexd d].toArray⟩:=by
 have:d=0∨d=1∨d=2∨d=3∨d=4∨d=5∨d=6∨d=7∨d=8∨d=9∨d=10∨d=11∨d=12∨d=13∨d=14∨d=15:=by omega
 rcases this with rfl|rfl|rfl|rfl|rfl|rfl|rfl|rfl|rfl|rfl|rfl|rfl|rfl|rfl|rfl|rfl<;>rfl
theorem digits_any (u least:Nat) (hu:u≤1114111) (hl:least=1∨(least=2∧16≤u)) (w:World) :
  Calls Tryz.prog 103 #[.int .i64 u,.int .i64 least] w fun e w'=>e=.returned (.string ⟨(hexL u).toArray⟩)∧w'=w:=by
 have HLE:Hid (least=1∨(least=2∧16≤u)):=hl;have hl2:1≤least∧least≤2:=by omega
 clear hl;go_enter Tryz.func103,Tryz.ntmps103;go_wp2_with fail;go_loopw [0,5,6] (fun n s _ w'=>∃ (j:Nat) (tx:ByteArray),j≤6∧n=.int .i64 (u / 16 ^ j:Nat)∧s=.string tx∧w'=w∧tx.size≤j∧j≤tx.size∧Hid (tx=⟨(hexN u j).toArray⟩)∧Hid (j≤least∨1≤u / 16 ^ (j-1))) (fun n s _ _=>(RowKit.intOf n).toNat+(2-(match s with|.string t=>t.size|_=>0)))
 case atStart=>exact ⟨0,⟨#[]⟩,by decide,by simp,rfl,rfl,by decide,by decide,rfl,.inl (Nat.zero_le _)⟩
 case round =>
  obtain ⟨j,tx,hj,rfl,rfl,rfl,hz1,hz2,HT,HM⟩:=hrel;have hv:u / 16 ^ j≤1114111:=Nat.le_trans (Nat.div_le_self _ _) hu;obtain ⟨v,hv0⟩:∃ v,u / 16 ^ j=v:=⟨_,rfl⟩;rw [hv0] at hv;have HV:Hid (u / 16 ^ j=v):=hv0;rw [hv0];clear hv0;have hx:=digTab (v % 16) (Nat.mod_lt _ (by decide));have HE:Hid ((⟨[hexd (v % 16)].toArray⟩:ByteArray)++tx=⟨(hexN u (j+1)).toArray⟩):=by
   show _=_;rw [HT.out,catL];show _=(⟨(hexd (u / 16 ^ j % 16)::hexN u j).toArray⟩:ByteArray);rw [HV.out];rfl
  have HD2:Hid (u / 16 ^ (j+1)=v / 16):=by
   show _=_;rw [Nat.pow_succ,← Nat.div_div_eq_div_mul,HV.out]
  have HJ:Hid (1≤v→j≤5):=by
   intro h;rcases Nat.lt_or_ge j 6 with h5|h5
   ·omega
   ·have hj5:j=6:=by omega
    have h6:=HV.out;rw [hj5] at h6;have h7:u / 16 ^ 6≤1114111 / 16 ^ 6:=Nat.div_le_div_right hu;have h8:1114111 / 16 ^ 6=0:=by decide
    omega
  by_cases h0:0<v
  ·go_wp2_with fail;refine ⟨⟨j+1,_,?_,?_,rfl,trivial,?_,?_,HE.out,.inr ?_⟩,?_⟩
   ·have:=HJ.out h0;omega
   ·rw [HD2.out];rfl
   ·rw [ByteArray.size_append];show 1+_≤_;omega
   ·rw [ByteArray.size_append];show _≤1+_;omega
   ·rw [Nat.add_sub_cancel,HV.out];omega
   ·have e:((⟨#[hexd (v % 16)]⟩:ByteArray)++tx).size=1+tx.size:=by rw [ByteArray.size_append];rfl
    simp only [RowKit.intOf,e];omega
  ·obtain rfl:v=0:=by omega
   have hx0:=digTab 0 (by decide);have HE0:Hid ((⟨#[hexd 0]⟩:ByteArray)++tx=⟨(hexN u (j+1)).toArray⟩):=HE.out;clear hx HE;by_cases hjl:j<least
   ·have d1:decide ((tx.size:Int)<(least:Int))=true:=decide_eq_true (by omega);go_wp2_with fail;refine ⟨⟨j+1,_,?_,?_,rfl,trivial,?_,?_,HE0.out,.inl (by omega)⟩,?_⟩
    ·omega
    ·rw [HD2.out];rfl
    ·rw [ByteArray.size_append];show 1+_≤_;omega
    ·rw [ByteArray.size_append];show _≤1+_;omega
    ·have e:((⟨#[hexd 0]⟩:ByteArray)++tx).size=1+tx.size:=by rw [ByteArray.size_append];rfl
     simp only [RowKit.intOf,e];omega
   ·have d1:decide ((tx.size:Int)<(least:Int))=false:=decide_eq_false (by omega);have HN:Hid (tx=⟨(hexL u).toArray⟩):=by
     show _=_;have h2:j=1∨1≤u / 16 ^ (j-1):=by
      rcases HM.out with h|h
      ·rcases HLE.out with h3|⟨h3,h4⟩
       ·left;omega
       ·right;have:j=2:=by omega
        subst this;simp;omega
      ·exact .inr h
     unfold hexL;rw [ndig_of2 hu (by omega) HV.out h2 hj];exact HT.out
    go_wp2_with fail;go_ret;rw [← HN.out];exact ⟨rfl,rfl⟩
theorem written_any (r:Nat) (hr:r≤1114111) (w:World) :
  Calls Tryz.prog 104 #[.int .i64 r] w fun e w'=>e=.returned (.string ⟨(qR r).toArray⟩)∧Below w.heap.size w w':=by
 by_cases h1:r=34
 ·subst h1;go_enter Tryz.func104,Tryz.ntmps104;go_wp2_with fail;go_ret;exact ⟨rfl,bE _ _⟩
 by_cases h2:r=92
 ·subst h2;go_enter Tryz.func104,Tryz.ntmps104;go_wp2_with fail;go_ret;exact ⟨rfl,bE _ _⟩
 by_cases h3:r=10
 ·subst h3;go_enter Tryz.func104,Tryz.ntmps104;go_wp2_with fail;go_ret;exact ⟨rfl,bE _ _⟩
 by_cases h4:r=9
 ·subst h4;go_enter Tryz.func104,Tryz.ntmps104;go_wp2_with fail;go_ret;exact ⟨rfl,bE _ _⟩
 have t1:((r:Int)==34)=false:=nB (by omega);have t2:((r:Int)==92)=false:=nB (by omega);have t3:((r:Int)==10)=false:=nB (by omega);have t4:((r:Int)==9)=false:=nB (by omega);by_cases h5:32≤r∧r≤126
 ·have hq:qR r=[UInt8.ofNat r]:=by
   unfold qR;rw [if_neg h1,if_neg h2,if_neg h3,if_neg h4,if_pos h5]
  rw [hq];obtain ⟨h6,h7⟩:=h5
  have hcv:∀ T,(convert 85 9 (.slice (some ⟨w.heap.size,0,none⟩) 1 1)).run Tryz.prog (w.alloc (.cells #[.int .u8 (r:Int)] T))=_:=fun T=>conv_arr (l:=[UInt8.ofNat r]) (alloc_new w _) (by
   have e:(UInt8.ofNat r).toNat=r:=ofNat_toNat r (by omega)
   simp [Lib.byteCells,e]) rfl
  go_enter Tryz.func104,Tryz.ntmps104;go_wp2_with fail;go_ret;exact ⟨rfl,(bE _ _).alloc (lR _) _⟩
 ·have hq:qR r=[92,117,123]++hexL r++[125]:=by
   unfold qR;rw [if_neg h1,if_neg h2,if_neg h3,if_neg h4,if_neg h5]
  have hl:=hexL_len r;rw [← sizeL (hexL r)] at hl;have hC:(⟨#[92,117,123]⟩:ByteArray)++⟨(hexL r).toArray⟩++⟨#[125]⟩=⟨(qR r).toArray⟩:=by
   rw [hq,← catL,← catL]
  obtain ⟨tx,htx⟩:∃ tx,(⟨(hexL r).toArray⟩:ByteArray)=tx:=⟨_,rfl⟩;rw [htx] at hl hC;have HT:Hid ((⟨(hexL r).toArray⟩:ByteArray)=tx):=htx;have HC:Hid ((⟨#[92,117,123]⟩:ByteArray)++tx++⟨#[125]⟩=⟨(qR r).toArray⟩):=hC;clear htx hC hq;have h6:r<32∨126<r:=by omega
  rcases h6 with h6|h6
  ·go_enter Tryz.func104,Tryz.ntmps104;go_wp2_with fail;refine (digits_any r 1 hr (.inl rfl) _).mono ?_;rintro e w1 ⟨rfl,rfl⟩;rw [HT.out];go_wp2_with fail;go_ret;rw [← HC.out];exact ⟨rfl,bE _ _⟩
  ·go_enter Tryz.func104,Tryz.ntmps104;go_wp2_with fail;refine (digits_any r 1 hr (.inl rfl) _).mono ?_;rintro e w1 ⟨rfl,rfl⟩;rw [HT.out];go_wp2_with fail;go_ret;rw [← HC.out];exact ⟨rfl,bE _ _⟩
theorem own_keep {w w':World} {B e size n:Nat} {v:Value} {xs:List Value} (h:w.ownsRow B e size v n xs) (hb:Below w.heap.size w w'):w'.ownsRow B e size v n xs:=by
 refine ⟨h.1,?_⟩;rcases h.2 with h0|⟨g,cap,cur,hv,hB,hh,rest⟩
 ·exact .inl h0
 ·exact .inr ⟨g,cap,cur,hv,hB,(hb.block g (gA hh)).trans hh,rest⟩
theorem byteL (l:List UInt8) (x:Nat) (hx:x<l.length) (h:x<(⟨l.toArray⟩:ByteArray).size):((⟨l.toArray⟩:ByteArray)[x]'h).toNat=(l.getD x 0).toNat:=by
 have h2:x<l.toArray.size:=h;have e:(⟨l.toArray⟩:ByteArray)[x]'h=l.toArray[x]'h2:=rfl;rw [e,List.getD_eq_getElem?_getD,List.getElem?_eq_getElem hx];simp
theorem own_one (w:World) (T:TypeId) (v:Value):(w.alloc (.cells #[v] T)).ownsRow w.heap.size T 1 (.slice (some ⟨w.heap.size,0,none⟩) 1 1) 1 [v] :=
 ⟨rfl,.inr ⟨w.heap.size,1,#[v],rfl,lR _,alloc_new w _,lR _,by decide,rfl,rfl⟩⟩
def rawB (c:Nat):List UInt8:=if Utf8.valid (c:Int)=true then encB c else [UInt8.ofNat (0xE0+c / 4096),UInt8.ofNat (0x80+c / 64 % 64),UInt8.ofNat (0x80+c % 64)]
theorem bytes_raw (c:Nat) (h:c≤1114111) (w:World) :
  Calls Tryz.prog 141 #[.int .i64 c] w fun e w'=>∃ C:Array Value,e=.returned (.slice (some ⟨w.heap.size,0,none⟩) (rawB c).length (rawB c).length)∧w'=w.alloc (.cells C 5)∧C.toList=Lib.byteCells (rawB c):=by
 unfold rawB;by_cases hv:Utf8.valid (c:Int)=true
 ·rw [if_pos hv];exact bytes_any c hv w
 ·rw [if_neg hv];have h2:=valid_nat c h;have h3:55296≤c∧c≤57343:=by
   by_cases k:55296≤c∧c≤57343
   ·exact k
   ·exact absurd (h2.2 k) hv
  refine (bytes_3 c (by omega) (by omega) w).mono ?_;rintro e w' ⟨rfl,rfl⟩;refine ⟨_,rfl,rfl,?_⟩;simp only [Lib.byteCells,List.map_cons,List.map_nil,toNat_u8 (0xE0+c / 4096) (by omega),toNat_u8 (0x80+c / 64 % 64) (by omega),toNat_u8 (0x80+c % 64) (by omega)];rfl
theorem rawB_len (c:Nat):(rawB c).length≤4:=by
 unfold rawB;split
 ·exact encB_le8 _
 ·simp
def hexI (n:Nat):Int:=if 48≤n∧n≤57 then (n:Int)-48 else if 97≤n∧n≤102 then (n:Int)-87 else -1
theorem refHex_any (n:Nat) (hn:n<256) (w:World):Calls Tryz.prog 140 #[.int .u8 n] w fun e w'=>e=.returned (.int .i64 (hexI n))∧w'=w:=by
 by_cases k1:48≤n∧n≤57
 ·have HH:Hid (hexI n=(n:Int)-48):=by unfold hexI;rw [if_pos k1];rfl
  obtain ⟨k2,k3⟩:=k1;go_enter Tryz.func140,Tryz.ntmps140;go_wp2_with fail;go_ret;rw [HH.out];exact ⟨rfl,rfl⟩
 ·by_cases k4:97≤n∧n≤102
  ·have HH:Hid (hexI n=(n:Int)-97+10):=by unfold hexI;rw [if_neg k1,if_pos k4];show _=_;omega
   obtain ⟨k2,k3⟩:=k4;have k5:57<n:=by omega
   clear k1;go_enter Tryz.func140,Tryz.ntmps140;go_wp2_with fail;go_ret;rw [HH.out];exact ⟨rfl,rfl⟩
  ·have HH:Hid (hexI n=-1):=by unfold hexI;rw [if_neg k1,if_neg k4];rfl
   have k5:n<48∨(57<n∧n<97)∨102<n:=by omega
   clear k1 k4;rcases k5 with k5|⟨k5,k6⟩|k5
   all_goals
    go_enter Tryz.func140,Tryz.ntmps140;go_wp2_with fail;go_ret;rw [HH.out];exact ⟨rfl,rfl⟩
theorem hexI_range (n:Nat):hexI n=-1∨(0≤hexI n∧hexI n<16):=by
 unfold hexI;split
 ·right;omega
 ·split
  ·right;omega
  ·left;rfl
def rrL (l:List UInt8):Nat→Nat→Nat→List UInt8×Nat
 | 0,_,_=>([],0)
 | f+1,r,k=>if k<l.length∧k<10 then (if at0 l k=125 then (if k=3∨1114111<r then ([],0) else (rawB r,k+1)) else if hexI (at0 l k)<0 then ([],0) else rrL l f (16*r+(hexI (at0 l k)).toNat) (k+1)) else ([],0)
def pcR (l:List UInt8):List UInt8×Nat :=
 if at0 l 0≠92 then ([UInt8.ofNat (at0 l 0)],1) else if l.length<2 then ([],0) else if at0 l 1=34 then ([34],2) else if at0 l 1=92 then ([92],2) else if at0 l 1=110 then ([10],2) else if at0 l 1=116 then ([9],2)
 else if at0 l 1=120 then (if 3<l.length∧0≤hexI (at0 l 2)∧0≤hexI (at0 l 3) then ([UInt8.ofNat (16*hexI (at0 l 2)+hexI (at0 l 3)).toNat],4) else ([],0))
 else if at0 l 1=117 then (if 2<l.length∧at0 l 2=123 then rrL l 8 0 3 else ([],0)) else ([],0)
def PieceIs (w w':World) (v:Value) (bs:List UInt8):Prop :=
 (bs=[]∧v=.slice none 0 0)∨∃ g C T,v=.slice (some ⟨g,0,none⟩) bs.length bs.length∧w'.heap[g]?=some (.cells C T (0,0))∧C.toList=Lib.byteCells bs∧w.heap.size≤g
theorem piece_new (w:World) (b:Nat) (h:b<256) (T:TypeId):PieceIs w (w.alloc (.cells #[.int .u8 (b:Int)] T)) (.slice (some ⟨w.heap.size,0,none⟩) 1 1) [UInt8.ofNat b] :=
 .inr ⟨w.heap.size,_,T,rfl,alloc_new w _,by simp [Lib.byteCells,ofNat_toNat b h],lR _⟩
theorem pieceT_any (s:ByteArray) (hs:s.size≤20971520) (i:Nat) (hi:i<s.size) (w:World) :
  Calls Tryz.prog 131 #[.string s,.int .i64 i] w fun e w'=>∃ v,e=.returned (.tuple #[v,.int .i64 (pcR (s.data.toList.drop i)).2])∧Below w.heap.size w w'∧PieceIs w w' v (pcR (s.data.toList.drop i)).1:=by
 have HL:Hid ((s.data.toList.drop i).length=s.size-i):=by show _=_;rw [List.length_drop,← size_data]
 have hb0:=at0_lt (s.data.toList.drop i) 0;have hx0:∀ w,(Instr.index 9 (.string s) (.int .i64 (i:Int))).run Tryz.prog w=.ok (.int .u8 (at0 (s.data.toList.drop i) 0)) w:=fun w=>byte_run0 s i hi w
 have hu:pcR (s.data.toList.drop i)=if at0 (s.data.toList.drop i) 0≠92 then ([UInt8.ofNat (at0 (s.data.toList.drop i) 0)],1) else pcR (s.data.toList.drop i):=by
  by_cases k:at0 (s.data.toList.drop i) 0≠92
  ·rw [if_pos k];unfold pcR;rw [if_pos k]
  ·rw [if_neg k]
 by_cases k0:at0 (s.data.toList.drop i) 0=92
 ·have hk0:at0 (s.data.toList.drop i) 0=92:=k0;rw [k0] at hx0;have t0:((92:Int) != 92)=false:=by decide
  by_cases k1:s.size<i+2
  ·have HU:Hid (pcR (s.data.toList.drop i)=([],0)):=by
    show _=_;unfold pcR;rw [if_neg (by rw [hk0];decide),if_pos (by rw [HL.out];omega)]
   have hge:(s.size:Int)≤(i:Int)+1:=by omega
   clear hu k0 hk0;go_enter Tryz.func131,Tryz.ntmps131;go_wp2_with fail;go_ret2;rw [HU.out];exact ⟨_,rfl,bE _ _,.inl ⟨rfl,rfl⟩⟩
  have hb1:=at0_lt (s.data.toList.drop i) 1;have hx1:∀ w,(Instr.index 9 (.string s) (.int .i64 ((i:Int)+1))).run Tryz.prog w=.ok (.int .u8 (at0 (s.data.toList.drop i) 1)) w:=fun w=>byte_run s i 1 (by omega) w
  have hu2:pcR (s.data.toList.drop i)=if at0 (s.data.toList.drop i) 1=34 then ([34],2) else if at0 (s.data.toList.drop i) 1=92 then ([92],2) else if at0 (s.data.toList.drop i) 1=110 then ([10],2) else if at0 (s.data.toList.drop i) 1=116 then ([9],2)
    else if at0 (s.data.toList.drop i) 1=120 then (if 3<(s.data.toList.drop i).length∧0≤hexI (at0 (s.data.toList.drop i) 2)∧0≤hexI (at0 (s.data.toList.drop i) 3) then ([UInt8.ofNat (16*hexI (at0 (s.data.toList.drop i) 2)+hexI (at0 (s.data.toList.drop i) 3)).toNat],4) else ([],0))
    else if at0 (s.data.toList.drop i) 1=117 then (if 2<(s.data.toList.drop i).length∧at0 (s.data.toList.drop i) 2=123 then rrL (s.data.toList.drop i) 8 0 3 else ([],0)) else ([],0):=by
   show pcR _=_;unfold pcR;rw [if_neg (by rw [hk0];decide),if_neg (by rw [HL.out];omega)]
  rw [HL.out] at hu2;obtain ⟨c,hc⟩:∃ c,at0 (s.data.toList.drop i) 1=c:=⟨_,rfl⟩;rw [hc] at hx1 hb1 hu2;clear hc hu k0 hk0 hb0;have hil:(i:Int)+1<(s.size:Int):=by omega
  have hil2:decide ((s.size:Int)≤(i:Int)+1)=false:=decide_eq_false (by omega);by_cases k2:c=34
  ·subst k2;have HU:Hid (pcR (s.data.toList.drop i)=([34],2)):=hu2;clear hu2;go_enter Tryz.func131,Tryz.ntmps131;go_wp2_with fail;go_ret2;rw [HU.out];exact ⟨_,rfl,(bE _ _).alloc (lR _) _,piece_new w 34 (by decide) _⟩
  rw [if_neg k2] at hu2;have t2:((c:Int)==34)=false:=nB (by omega);by_cases k3:c=92
  ·subst k3;have HU:Hid (pcR (s.data.toList.drop i)=([92],2)):=hu2;clear hu2;go_enter Tryz.func131,Tryz.ntmps131;go_wp2_with fail;go_ret2;rw [HU.out];exact ⟨_,rfl,(bE _ _).alloc (lR _) _,piece_new w 92 (by decide) _⟩
  rw [if_neg k3] at hu2;have t3:((c:Int)==92)=false:=nB (by omega);by_cases k4:c=110
  ·subst k4;have HU:Hid (pcR (s.data.toList.drop i)=([10],2)):=hu2;clear hu2;go_enter Tryz.func131,Tryz.ntmps131;go_wp2_with fail;go_ret2;rw [HU.out];exact ⟨_,rfl,(bE _ _).alloc (lR _) _,piece_new w 10 (by decide) _⟩
  rw [if_neg k4] at hu2;have t4:((c:Int)==110)=false:=nB (by omega);by_cases k5:c=116
  ·subst k5;have HU:Hid (pcR (s.data.toList.drop i)=([9],2)):=hu2;clear hu2;go_enter Tryz.func131,Tryz.ntmps131;go_wp2_with fail;go_ret2;rw [HU.out];exact ⟨_,rfl,(bE _ _).alloc (lR _) _,piece_new w 9 (by decide) _⟩
  rw [if_neg k5] at hu2;have t5:((c:Int)==116)=false:=nB (by omega);by_cases k6:c=120
  ·subst k6;rw [if_pos rfl] at hu2;by_cases h3:3<s.size-i
   ·have hb2:=at0_lt (s.data.toList.drop i) 2;have hb3:=at0_lt (s.data.toList.drop i) 3;have hx2:∀ w,(Instr.index 9 (.string s) (.int .i64 ((i:Int)+2))).run Tryz.prog w=.ok (.int .u8 (at0 (s.data.toList.drop i) 2)) w:=fun w=>byte_run s i 2 (by omega) w
    have hx3:∀ w,(Instr.index 9 (.string s) (.int .i64 ((i:Int)+3))).run Tryz.prog w=.ok (.int .u8 (at0 (s.data.toList.drop i) 3)) w:=fun w=>byte_run s i 3 (by omega) w
    have hr2:=hexI_range (at0 (s.data.toList.drop i) 2);have hr3:=hexI_range (at0 (s.data.toList.drop i) 3);have hh2:=fun w=>refHex_any (at0 (s.data.toList.drop i) 2) hb2 w
    have hh3:=fun w=>refHex_any (at0 (s.data.toList.drop i) 3) hb3 w
    generalize at0 (s.data.toList.drop i) 2=x2 at *;generalize at0 (s.data.toList.drop i) 3=x3 at *;have HH2:Hid (∀ w,Calls Tryz.prog 140 #[.int .u8 x2] w fun e w'=>e=.returned (.int .i64 (hexI x2))∧w'=w):=hh2;have HH3:Hid (∀ w,Calls Tryz.prog 140 #[.int .u8 x3] w fun e w'=>e=.returned (.int .i64 (hexI x3))∧w'=w):=hh3;clear hh2 hh3;generalize hexI x2=a2 at *;generalize hexI x3=a3 at *;have hil3:(i:Int)+3<(s.size:Int):=by omega
    have w2:IntKind.i64.wrap ((i:Int)+2)=(i:Int)+2:=IntWalk.i64_in _ (by omega);have w3:IntKind.i64.wrap ((i:Int)+3)=(i:Int)+3:=IntWalk.i64_in _ (by omega);go_enter Tryz.func131,Tryz.ntmps131;go_wp2_with fail;go_quiet (first|(go_at_call_of 140 x2;refine Calls.quiet_of_same (HH2.out _))|(go_at_call_of 140 x3;refine Calls.quiet_of_same (HH3.out _)));rcases hr2 with hr2|⟨hr2,hr2b⟩
    ·subst hr2;have HU:Hid (pcR (s.data.toList.drop i)=([],0)):=by
      show _=_;rw [hu2,if_neg (by omega)]
     clear hu2;go_wp2_with fail;go_ret2;rw [HU.out];exact ⟨_,rfl,⟨rfl,rfl,rfl,lR _,fun _ _=>rfl⟩,.inl ⟨rfl,rfl⟩⟩
    ·have f2:decide (0≤a2)=true:=decide_eq_true hr2;rcases hr3 with hr3|⟨hr3,hr3b⟩
     ·subst hr3;have HU:Hid (pcR (s.data.toList.drop i)=([],0)):=by
       show _=_;rw [hu2,if_neg (by omega)]
      clear hu2;go_wp2_with fail;go_ret2;rw [HU.out];exact ⟨_,rfl,⟨rfl,rfl,rfl,lR _,fun _ _=>rfl⟩,.inl ⟨rfl,rfl⟩⟩
     ·have f3:decide (0≤a3)=true:=decide_eq_true hr3;obtain ⟨bb,hbb⟩:∃ bb:Nat,16*a2+a3=bb:=Int.eq_ofNat_of_zero_le (by omega);have HU:Hid (pcR (s.data.toList.drop i)=([UInt8.ofNat bb],4)):=by
       show _=_;rw [hu2,if_pos ⟨by omega,hr2,hr3⟩,hbb];rfl
      have EB:Hid (16*a2+a3=(bb:Int)):=hbb;have hbl:bb<256:=by omega
      clear hu2 hbb;go_wp2_with fail;go_ret2;rw [HU.out,EB.out];exact ⟨_,rfl,((bE _ _).alloc (lR _) _).trans ⟨rfl,rfl,rfl,lR _,fun _ _=>rfl⟩,piece_new w bb hbl _⟩
   ·have HU:Hid (pcR (s.data.toList.drop i)=([],0)):=by
     show _=_;rw [hu2,if_neg (by omega)]
    clear hu2;have hil3:(s.size:Int)≤(i:Int)+3:=by omega
    go_enter Tryz.func131,Tryz.ntmps131;go_wp2_with fail;go_ret2;rw [HU.out];exact ⟨_,rfl,bE _ _,.inl ⟨rfl,rfl⟩⟩
  rw [if_neg k6] at hu2;have t6:((c:Int)==120)=false:=nB (by omega);by_cases k7:c=117
  ·subst k7;rw [if_pos rfl] at hu2;clear t2 t3 t4 t5 t6;by_cases h2:2<s.size-i
   ·have hb2:=at0_lt (s.data.toList.drop i) 2;have hx2:∀ w,(Instr.index 9 (.string s) (.int .i64 ((i:Int)+2))).run Tryz.prog w=.ok (.int .u8 (at0 (s.data.toList.drop i) 2)) w:=fun w=>byte_run s i 2 (by omega) w
    obtain ⟨x2,hx2e⟩:∃ x2,at0 (s.data.toList.drop i) 2=x2:=⟨_,rfl⟩;rw [hx2e] at hb2 hx2 hu2;clear hx2e;have g2:decide ((i:Int)+2<(s.size:Int))=true:=decide_eq_true (by omega);by_cases h123:x2=123
    ·subst h123;rw [if_pos ⟨h2,rfl⟩] at hu2;have HU:Hid (rrL (s.data.toList.drop i) 8 0 3=pcR (s.data.toList.drop i)):=hu2.symm;clear hu2;go_enter Tryz.func131,Tryz.ntmps131;go_wp2_with fail;go_loopw [8,9,10] (fun r k _ w'=>∃ (f rv kk:Nat),kk≤10∧3≤kk∧kk+f=11∧rv+1≤16 ^ (kk-3)∧r=.int .i64 rv∧k=.int .i64 ((i:Int)+kk)∧w'=w∧Hid (rrL (s.data.toList.drop i) f rv kk=pcR (s.data.toList.drop i))) (fun _ k _ _=>i+10-(RowKit.intOf k).toNat)
     case atStart=>exact ⟨8,0,3,by decide,by decide,rfl,by decide,rfl,rfl,rfl,HU⟩
     case round =>
      clear HU;obtain ⟨f,rv,kk,hk10,hk3,hkf,hrv,rfl,rfl,rfl,HR⟩:=hrel;obtain ⟨f,rfl⟩:∃ f',f=f'+1:=⟨f-1,by omega⟩;have hr:=HR.out;rw [rrL,HL.out] at hr;clear HR;by_cases h10:kk<10
      ·have g10:decide ((kk:Int)<10)=true:=decide_eq_true (by omega);have g10n:decide (kk<10)=true:=decide_eq_true h10;have g10i:decide ((i:Int)+(kk:Int)<(i:Int)+10)=true:=decide_eq_true (by omega);by_cases hks:i+kk<s.size
       ·rw [if_pos ⟨by omega,h10⟩] at hr;have gks:decide ((i:Int)+(kk:Int)<(s.size:Int))=true:=decide_eq_true (by omega);have hbk:=at0_lt (s.data.toList.drop i) kk;have hxk:∀ w,(Instr.index 9 (.string s) (.int .i64 ((i:Int)+(kk:Int)))).run Tryz.prog w=.ok (.int .u8 (at0 (s.data.toList.drop i) kk)) w:=fun w=>byte_run s i kk hks w
        obtain ⟨x,hxe⟩:∃ x,at0 (s.data.toList.drop i) kk=x:=⟨_,rfl⟩;rw [hxe] at hbk hxk hr;clear hxe;have hrv2:rv+1≤268435456:=Nat.le_trans hrv (Nat.le_trans (Nat.pow_le_pow_right (by decide) (show kk-3≤7 by omega)) (by decide));by_cases h125:x=125
        ·subst h125;rw [if_pos rfl] at hr;by_cases hk33:kk=3
         ·subst hk33;rw [if_pos (.inl rfl)] at hr;have hxk3:∀ w,(Instr.index 9 (.string s) (.int .i64 ((i:Int)+3))).run Tryz.prog w=.ok (.int .u8 125) w:=fun w=>hxk w
          have HU:Hid (pcR (s.data.toList.drop i)=([],0)):=hr.symm;clear hr;go_wp2_with fail;go_ret2;rw [HU.out];exact ⟨_,rfl,bE _ _,.inl ⟨rfl,rfl⟩⟩
         ·have e33:(((i:Int)+(kk:Int))==((i:Int)+3))=false:=nB (by omega);have e33b:((kk:Int)==3)=false:=nB (by omega);by_cases hbig:1114111<rv
          ·rw [if_pos (.inr hbig)] at hr;have HU:Hid (pcR (s.data.toList.drop i)=([],0)):=hr.symm;have gb:decide ((1114111:Int)<(rv:Int))=true:=decide_eq_true (by omega);clear hr hbig;go_wp2_with fail;go_ret2;rw [HU.out];exact ⟨_,rfl,bE _ _,.inl ⟨rfl,rfl⟩⟩
          ·rw [if_neg (by omega)] at hr;have HU:Hid (pcR (s.data.toList.drop i)=(rawB rv,kk+1)):=hr.symm;have gb:decide ((1114111:Int)<(rv:Int))=false:=decide_eq_false (by omega);clear hr;go_wp2_with fail;refine (bytes_raw rv (by omega) _).mono ?_;rintro e w1 ⟨C,rfl,rfl,hC⟩;generalize rawB rv=bs at *;go_wp2_with fail;go_ret2;rw [HU.out,show (i:Int)+(kk:Int)+1-(i:Int)=((kk+1:Nat):Int) by omega];exact ⟨_,rfl,(bE _ _).alloc (lR _) _,.inr ⟨wr.heap.size,C,5,rfl,alloc_new wr _,hC,lR _⟩⟩
        ·rw [if_neg h125] at hr;have e125:((x:Int)==125)=false:=nB (by omega);have HHX:Hid (∀ w,Calls Tryz.prog 140 #[.int .u8 x] w fun e w'=>e=.returned (.int .i64 (hexI x))∧w'=w):=fun w=>refHex_any x hbk w
         have hrg:=hexI_range x;generalize hexI x=d at *;rcases hrg with hrg|⟨hrg,hrg2⟩
         ·subst hrg;rw [if_pos (by decide)] at hr;have HU:Hid (pcR (s.data.toList.drop i)=([],0)):=hr.symm;clear hr;go_wp2_with (go_at_call 140;refine (HHX.out _).mono ?_;rintro e w' ⟨rfl,rfl⟩);go_ret2;rw [HU.out];exact ⟨_,rfl,bE _ _,.inl ⟨rfl,rfl⟩⟩
         ·rw [if_neg (by omega)] at hr;have HR:Hid (rrL (s.data.toList.drop i) f (16*rv+d.toNat) (kk+1)=pcR (s.data.toList.drop i)):=hr;have gd:decide (d<0)=false:=decide_eq_false (by omega);clear hr;go_wp2_with (go_at_call 140;refine (HHX.out _).mono ?_;rintro e w' ⟨rfl,rfl⟩);go_roundw
          case rel=>exact ⟨f,16*rv+d.toNat,kk+1,by omega,by omega,by omega,by rw [show kk+1-3=kk-3+1 by omega,Nat.pow_succ];omega,by go_num,by go_num,(by first|rfl|trivial),HR⟩
          case measure=>simp [RowKit.intOf];omega
       ·rw [if_neg (by omega)] at hr;have HU:Hid (pcR (s.data.toList.drop i)=([],0)):=hr.symm;have gks:decide ((i:Int)+(kk:Int)<(s.size:Int))=false:=decide_eq_false (by omega);clear hr;go_wp2_with fail;go_ret2;rw [HU.out];exact ⟨_,rfl,bE _ _,.inl ⟨rfl,rfl⟩⟩
      ·rw [if_neg (by omega)] at hr;have HU:Hid (pcR (s.data.toList.drop i)=([],0)):=hr.symm;have g10:decide ((kk:Int)<10)=false:=decide_eq_false (by omega);have g10n:decide (kk<10)=false:=decide_eq_false h10;have g10i:decide ((i:Int)+(kk:Int)<(i:Int)+10)=false:=decide_eq_false (by omega);clear hr;by_cases hks:i+kk<s.size
       ·have gks:decide ((i:Int)+(kk:Int)<(s.size:Int))=true:=decide_eq_true (by omega);go_wp2_with fail;go_ret2;rw [HU.out];exact ⟨_,rfl,bE _ _,.inl ⟨rfl,rfl⟩⟩
       ·have gks:decide ((i:Int)+(kk:Int)<(s.size:Int))=false:=decide_eq_false (by omega);go_wp2_with fail;go_ret2;rw [HU.out];exact ⟨_,rfl,bE _ _,.inl ⟨rfl,rfl⟩⟩
    ·have HU:Hid (pcR (s.data.toList.drop i)=([],0)):=by
      show _=_;rw [hu2,if_neg (by omega)]
     clear hu2;have t8:((x2:Int)==123)=false:=nB (by omega);go_enter Tryz.func131,Tryz.ntmps131;go_wp2_with fail;refine wp_loop_rounds 1 ?_;rw [rounds_succ];go_wp2_with fail;go_ret2;rw [HU.out];exact ⟨_,rfl,bE _ _,.inl ⟨rfl,rfl⟩⟩
   ·have HU:Hid (pcR (s.data.toList.drop i)=([],0)):=by
     show _=_;rw [hu2,if_neg (by omega)]
    clear hu2;have g2:decide ((i:Int)+2<(s.size:Int))=false:=decide_eq_false (by omega);go_enter Tryz.func131,Tryz.ntmps131;go_wp2_with fail;refine wp_loop_rounds 1 ?_;rw [rounds_succ];go_wp2_with fail;go_ret2;rw [HU.out];exact ⟨_,rfl,bE _ _,.inl ⟨rfl,rfl⟩⟩
  ·rw [if_neg k7] at hu2;have t7:((c:Int)==117)=false:=nB (by omega);have HU:Hid (pcR (s.data.toList.drop i)=([],0)):=hu2;clear hu2;go_enter Tryz.func131,Tryz.ntmps131;go_wp2_with fail;go_ret2;rw [HU.out];exact ⟨_,rfl,bE _ _,.inl ⟨rfl,rfl⟩⟩
 ·rw [if_pos k0] at hu;have HU:Hid (pcR (s.data.toList.drop i)=([UInt8.ofNat (at0 (s.data.toList.drop i) 0)],1)):=hu;clear hu;obtain ⟨c,hc⟩:∃ c,at0 (s.data.toList.drop i) 0=c:=⟨_,rfl⟩;rw [hc] at HU hb0 hx0 k0;clear hc;have t1:((c:Int) != 92)=true:=by simp;omega
  go_enter Tryz.func131,Tryz.ntmps131;go_wp2_with fail;go_ret2;rw [HU.out];exact ⟨_,rfl,(bE _ _).alloc (lR _) _,piece_new w c hb0 _⟩
end Go.Proofs.YtijpfbcippijoaaGreatDoor
