import Derived.Test.YtijpfbcippijoaaGreatDoorAl
import Derived.Test.YtijpfbcippijoaaGreatDoorGr112
import Derived.Test.YtijpfbcippijoaaGreatDoorGr95
import Derived.Test.YtijpfbcippijoaaGreatDoorGr105
set_option maxHeartbeats 4000000
set_option maxRecDepth 100000
namespace Go.Proofs.YtijpfbcippijoaaGreatDoor
open Go.RowKit Go.Lib
theorem refQuote_any (s:ByteArray) (hs:s.size≤20971520) (w:World) :
  Calls Tryz.prog 80 #[.string s] w fun e w'=>e=.returned (.string ⟨(quoted s).toArray⟩)∧Below w.heap.size w w':=by
 obtain ⟨i0,hi,hz0,hz1,hz2⟩:=info_parts info8;go_enter Tryz.func80,Tryz.ntmps80;go_wp2_with fail;go_loopw [3,4,5,6,7,8] (fun q i _ _ _ _ w'=>∃ (pos f:Nat) (acc:List UInt8) (a:Option Addr) (cap:Nat),q=.slice a (1+acc.length) cap∧i=.int .i64 pos∧w'.ownsRow w.heap.size 5 1 (.slice a (1+acc.length) cap) (1+acc.length) (Lib.byteCells (34::acc))∧Below w.heap.size w w'∧pos≤s.size∧s.size≤pos+f∧acc.length≤10*pos∧Hid (acc++quoL f (s.data.toList.drop pos)=quoL s.size s.data.toList)) (fun _ i _ _ _ _ _=>s.size-(RowKit.intOf i).toNat)
 case atStart=>exact ⟨0,s.size,[],_,_,rfl,rfl,own_one w _ _,(bE _ _).alloc (lR _) _,Nat.zero_le _,by omega,by simp,rfl⟩
 case round =>
  obtain ⟨pos,f,acc,a,cap,rfl,rfl,hown,HBW,hps,hpf,hal,HA⟩:=hrel;have hszw:=HBW.size;by_cases hp:pos<s.size
  ·obtain ⟨f,rfl⟩:∃ f',f=f'+1:=⟨f-1,by omega⟩;have hne:s.data.toList.drop pos≠[]:=by
    intro e;have:=congrArg List.length e;rw [List.length_drop,← size_data] at this;simp at this;omega
   have hA2:=HA.out;rw [quoL_step f _ hne,← List.append_assoc,List.drop_drop] at hA2;have hpl:=pieceL_len (s.data.toList.drop pos);obtain ⟨pc,hpc⟩:∃ pc,pieceL (s.data.toList.drop pos)=pc:=⟨_,rfl⟩;rw [hpc] at hA2 hpl;have HPC:Hid (pieceL (s.data.toList.drop pos)=pc):=hpc;have HBY:Hid (∀ h,(s[pos]'h).toNat=at0 (s.data.toList.drop pos) 0):=byteAt0 s pos;have hb0:at0 (s.data.toList.drop pos) 0<256:=at0_lt _ _;have hr0:(dec (s.data.toList.drop pos)).1≤1114111:=by rw [← decode_dec];exact decode_le' s pos
   have hw1:1≤(dec (s.data.toList.drop pos)).2:=by rw [← decode_dec];exact width_pos s pos
   have hw2:pos+(dec (s.data.toList.drop pos)).2≤s.size:=by rw [← decode_dec];exact width_fits s pos hp
   have HSQ:Hid (seq (s.data.toList.drop pos)=if brkL (s.data.toList.drop pos)=true then (0,0) else dec (s.data.toList.drop pos)):=by
    show _=_;cases hl:s.data.toList.drop pos with
    | nil=>exact absurd hl hne
    | cons b0 t=>exact seq_dec b0 t
   have HB1:Hid (brkL (s.data.toList.drop pos)=true→(dec (s.data.toList.drop pos)).2=1∧128≤at0 (s.data.toList.drop pos) 0):=brk_one _ hne;clear hpc hne HA;have HA3:Hid (acc++pc++quoL f (List.drop (pos+(dec (s.data.toList.drop pos)).2) s.data.toList)=quoL s.size s.data.toList):=hA2;clear hA2;cases hbk:brkL (s.data.toList.drop pos) with
   | true =>
    have h81:=HB1.out hbk;have hl:=hexL_len (at0 (s.data.toList.drop pos) 0);rw [← sizeL (hexL (at0 (s.data.toList.drop pos) 0))] at hl;have hC:=catL [92,120] (hexL (at0 (s.data.toList.drop pos) 0));have hQ:[92,120]++hexL (at0 (s.data.toList.drop pos) 0)=pc:=by rw [← HPC.out,pieceL,if_pos hbk]
    rw [hQ] at hC;obtain ⟨tx,htx⟩:∃ tx,(⟨(hexL (at0 (s.data.toList.drop pos) 0)).toArray⟩:ByteArray)=tx:=⟨_,rfl⟩;rw [htx] at hl hC;have HTX:Hid ((⟨(hexL (at0 (s.data.toList.drop pos) 0)).toArray⟩:ByteArray)=tx):=htx;have HC:Hid ((⟨#[92,120]⟩:ByteArray)++tx=⟨pc.toArray⟩):=hC;have HSQ2:Hid (seq (s.data.toList.drop pos)=(0,0)):=by show _=_;rw [HSQ.out,if_pos hbk]
    have hd1:=h81.1;rw [hd1] at HA3 hw1 hw2;have h128:=h81.2;clear htx hC hQ h81 hd1 hr0 HB1 hbk;obtain ⟨bv0,hbv0⟩:∃ bv0,at0 (s.data.toList.drop pos) 0=bv0:=⟨_,rfl⟩;rw [hbv0] at HBY hb0 HTX h128;clear hbv0;go_wp2_with fail;refine (seq_any s (by omega) pos hp _).mono ?_;rintro e w' ⟨rfl,rfl⟩;rw [HSQ2.out];have hby:=HBY.out;go_wp2_with fail;refine (digits_any bv0 2 (by omega) (.inr ⟨rfl,by omega⟩) _).mono ?_;rintro e w' ⟨rfl,rfl⟩;rw [HTX.out];clear hby;go_wp2_with fail;rw [HC.out];have hown2:=hown;have hcz:pc.length≤10:=hpl.2;obtain ⟨wt,hwt⟩:∃ wt:ByteArray,(⟨pc.toArray⟩:ByteArray)=wt:=⟨_,rfl⟩;have HW:Hid (∀ x,x<pc.length→∀ h,(wt[x]'h).toNat=(pc.getD x 0).toNat):=by
     subst hwt;intro x hx h;exact byteL pc x hx h
    have hwz:wt.size=pc.length:=by rw [← hwt];exact sizeL pc
    have hwz1:wt.size≤pc.length:=Nat.le_of_eq hwz;have hwz2:pc.length≤wt.size:=Nat.le_of_eq hwz.symm;rw [hwt];clear hwt hwz;go_loopw [3,8] (fun b k w'=>∃ (i:Nat) (ab:Option Addr) (cb:Nat),i≤pc.length∧b=.slice ab (1+acc.length+i) cb∧k=.int .i64 i∧w'.ownsRow w.heap.size 5 1 (.slice ab (1+acc.length+i) cb) (1+acc.length+i) (Lib.byteCells (34::acc)++Lib.byteCells (pc.take i))∧Below w.heap.size w w') (fun _ k _=>pc.length-(RowKit.intOf k).toNat)
    case atStart=>exact ⟨0,a,cap,Nat.zero_le _,rfl,rfl,by rw [List.take_zero,Nat.add_zero,show Lib.byteCells []=[] from rfl,List.append_nil];exact hown2,HBW⟩
    case round =>
     clear hown hown2;obtain ⟨i,ab,cb,hiw,rfl,rfl,hown,hb⟩:=hrel;have hsz:=hb.size;by_cases hi2:i<pc.length
     ·have HT:Hid (Lib.byteCells (pc.take i)++[Value.int .u8 (pc.getD i 0).toNat]=Lib.byteCells (pc.take (i+1))):=take_snoc8 pc i hi2;have hbv:(pc.getD i 0).toNat<256:=(pc.getD i 0).toNat_lt;have hwx:=HW.out i hi2;have hiz:i<wt.size:=by omega
      generalize (pc.getD i 0).toNat=bv at *;go_wp2_with (at_builtin;refine wpList_append_own _ rfl _ _ 85 rfl w.heap.size 5 i0 (.int .u8 0) 1 1 Tryz.underlying85 hi hz0 hz1 hz2 rfl (by decide) _ _ _ rfl (hown.alloc _) ⟨_,0,none⟩ 1 1 [.int .u8 bv] rfl rfl ?c1 ?c2 ?c3 ?c4 ?c5 ?_)
      case c1=>exact cell_new8 _ _ _
      case c2=>first|rfl|(intro u hu;simp at hu;subst hu;rfl)
      case c3=>unfold maxLen;omega
      case c4=>omega
      case c5=>first|omega|(simp;omega)
      intro v' w3 hown' hgrow _;rw [HT.out] at hown';have hb3:Below w.heap.size w w3:=(hb.alloc hsz _).grown hgrow (by simp;omega) (fun g hg=>own_ge hown hg);obtain ⟨a',cap',rfl⟩:∃ a' cap',v'=.slice a' (1+acc.length+i+1) cap':=by
       rcases hown'.2 with ⟨_,h0⟩|⟨g',cap',cur,e,_⟩
       ·omega
       ·exact ⟨_,_,e⟩
      clear hown hgrow hb hwx;go_wp2_with fail;go_roundw
      case rel=>exact ⟨i+1,a',cap',by omega,rfl,by go_num,hown',hb3⟩
      case measure=>simp [RowKit.intOf];omega
     ·have hiw2:i=pc.length:=by omega
      subst hiw2;rw [List.take_length,← byteCells_append,List.cons_append] at hown;go_wp2_with fail;go_roundw
      case rel=>exact ⟨pos+1,f,acc++pc,ab,cb,by rw [List.length_append,← Nat.add_assoc],by go_num,by rw [List.length_append,← Nat.add_assoc];exact hown,hb,by omega,by omega,by rw [List.length_append];omega,HA3⟩
      case measure=>simp [RowKit.intOf];omega
   | false =>
    have HSQ2:Hid (seq (s.data.toList.drop pos)=dec (s.data.toList.drop pos)):=by show _=_;rw [HSQ.out,if_neg (by rw [hbk];decide)]
    have HQ:Hid (qR (dec (s.data.toList.drop pos)).1=pc):=by show _=_;rw [← HPC.out,pieceL,if_neg (by rw [hbk];decide)]
    clear hbk HB1 HBY hb0;obtain ⟨⟨r,wd⟩,hdd⟩:∃ d,dec (s.data.toList.drop pos)=d:=⟨_,rfl⟩;rw [hdd] at HSQ2 HQ HA3 hr0 hw1 hw2;clear hdd;simp only at hr0 hw1 hw2;have HQ2:Hid (qR r=pc):=HQ.out;have HA4:Hid (acc++pc++quoL f (List.drop (pos+wd) s.data.toList)=quoL s.size s.data.toList):=HA3.out;clear HQ HA3;have HA3:Hid (acc++pc++quoL f (List.drop (pos+wd) s.data.toList)=quoL s.size s.data.toList):=HA4;clear HA4;have t0:((wd:Int)==0)=false:=nB (by omega);go_wp2_with fail;refine (seq_any s (by omega) pos hp _).mono ?_;rintro e w' ⟨rfl,rfl⟩;rw [HSQ2.out];show _;simp only;go_wp2_with fail;refine (written_any r hr0 _).mono ?_;rintro e w4 ⟨rfl,hb4⟩;rw [HQ2.out];have hown:=own_keep hown hb4;have HBW:=HBW.trans (hb4.mono HBW.size);clear hb4;go_wp2_with fail;have hown2:=hown;have hcz:pc.length≤10:=hpl.2;obtain ⟨wt,hwt⟩:∃ wt:ByteArray,(⟨pc.toArray⟩:ByteArray)=wt:=⟨_,rfl⟩;have HW:Hid (∀ x,x<pc.length→∀ h,(wt[x]'h).toNat=(pc.getD x 0).toNat):=by
     subst hwt;intro x hx h;exact byteL pc x hx h
    have hwz:wt.size=pc.length:=by rw [← hwt];exact sizeL pc
    have hwz1:wt.size≤pc.length:=Nat.le_of_eq hwz;have hwz2:pc.length≤wt.size:=Nat.le_of_eq hwz.symm;rw [hwt];clear hwt hwz;go_loopw [3,8] (fun b k w'=>∃ (i:Nat) (ab:Option Addr) (cb:Nat),i≤pc.length∧b=.slice ab (1+acc.length+i) cb∧k=.int .i64 i∧w'.ownsRow w.heap.size 5 1 (.slice ab (1+acc.length+i) cb) (1+acc.length+i) (Lib.byteCells (34::acc)++Lib.byteCells (pc.take i))∧Below w.heap.size w w') (fun _ k _=>pc.length-(RowKit.intOf k).toNat)
    case atStart=>exact ⟨0,a,cap,Nat.zero_le _,rfl,rfl,by rw [List.take_zero,Nat.add_zero,show Lib.byteCells []=[] from rfl,List.append_nil];exact hown2,HBW⟩
    case round =>
     clear hown hown2;obtain ⟨i,ab,cb,hiw,rfl,rfl,hown,hb⟩:=hrel;have hsz:=hb.size;by_cases hi2:i<pc.length
     ·have HT:Hid (Lib.byteCells (pc.take i)++[Value.int .u8 (pc.getD i 0).toNat]=Lib.byteCells (pc.take (i+1))):=take_snoc8 pc i hi2;have hbv:(pc.getD i 0).toNat<256:=(pc.getD i 0).toNat_lt;have hwx:=HW.out i hi2;have hiz:i<wt.size:=by omega
      generalize (pc.getD i 0).toNat=bv at *;go_wp2_with (at_builtin;refine wpList_append_own _ rfl _ _ 85 rfl w.heap.size 5 i0 (.int .u8 0) 1 1 Tryz.underlying85 hi hz0 hz1 hz2 rfl (by decide) _ _ _ rfl (hown.alloc _) ⟨_,0,none⟩ 1 1 [.int .u8 bv] rfl rfl ?c1 ?c2 ?c3 ?c4 ?c5 ?_)
      case c1=>exact cell_new8 _ _ _
      case c2=>first|rfl|(intro u hu;simp at hu;subst hu;rfl)
      case c3=>unfold maxLen;omega
      case c4=>omega
      case c5=>first|omega|(simp;omega)
      intro v' w3 hown' hgrow _;rw [HT.out] at hown';have hb3:Below w.heap.size w w3:=(hb.alloc hsz _).grown hgrow (by simp;omega) (fun g hg=>own_ge hown hg);obtain ⟨a',cap',rfl⟩:∃ a' cap',v'=.slice a' (1+acc.length+i+1) cap':=by
       rcases hown'.2 with ⟨_,h0⟩|⟨g',cap',cur,e,_⟩
       ·omega
       ·exact ⟨_,_,e⟩
      clear hown hgrow hb hwx;go_wp2_with fail;go_roundw
      case rel=>exact ⟨i+1,a',cap',by omega,rfl,by go_num,hown',hb3⟩
      case measure=>simp [RowKit.intOf];omega
     ·have hiw2:i=pc.length:=by omega
      subst hiw2;rw [List.take_length,← byteCells_append,List.cons_append] at hown;go_wp2_with fail;go_roundw
      case rel=>exact ⟨pos+wd,f,acc++pc,ab,cb,by rw [List.length_append,← Nat.add_assoc],by go_num,by rw [List.length_append,← Nat.add_assoc];exact hown,hb,by omega,by omega,by rw [List.length_append];omega,HA3⟩
      case measure=>simp [RowKit.intOf];omega
  ·have hps2:pos=s.size:=by omega
   subst hps2;have hA2:=HA.out;rw [List.drop_eq_nil_of_le (by rw [← size_data];omega),quoL_end,List.append_nil] at hA2;have HQ:Hid (Lib.byteCells (34::acc)++[Value.int .u8 34]=Lib.byteCells (quoted s)):=by
    show _=_;rw [hA2,quoted,byteCells_append ([34]++_) [34]];rfl
   clear hA2 HA;go_wp2_with (at_builtin;refine wpList_append_own _ rfl _ _ 85 rfl w.heap.size 5 i0 (.int .u8 0) 1 1 Tryz.underlying85 hi hz0 hz1 hz2 rfl (by decide) _ _ _ rfl (hown.alloc _) ⟨_,0,none⟩ 1 1 [.int .u8 34] rfl rfl ?c1 ?c2 ?c3 ?c4 ?c5 ?_)
   case c1=>exact cell_new8 _ _ _
   case c2=>first|rfl|(intro u hu;simp at hu;subst hu;rfl)
   case c3=>unfold maxLen;omega
   case c4=>omega
   case c5=>first|omega|(simp;omega)
   intro v' w3 hown' hgrow _;rw [HQ.out] at hown';have hb3:Below w.heap.size w w3:=(HBW.alloc hszw _).grown hgrow (by simp;omega) (fun g hg=>own_ge hown hg);have hcv:=conv_own hown';clear hown hgrow HBW HQ;obtain ⟨tx,htx⟩:∃ tx:ByteArray,(⟨(quoted s).toArray⟩:ByteArray)=tx:=⟨_,rfl⟩;rw [htx] at hcv;have HS:Hid ((⟨(quoted s).toArray⟩:ByteArray)=tx):=htx;clear htx hown';go_wp2_with fail;go_ret;rw [HS.out];exact ⟨rfl,hb3⟩
theorem rawB_pos (c:Nat):1≤(rawB c).length:=by
 unfold rawB;split
 ·exact encB_pos _
 ·simp
theorem rrL_len (l:List UInt8):∀ f r k,(rrL l f r k).1.length≤4∧(rrL l f r k).2≤l.length∧((rrL l f r k).2≠0→(rrL l f r k).1≠[])
 | 0,r,k=>by simp [rrL]
 | f+1,r,k=>by
  rw [rrL];split
  ·rename_i h
   split
   ·split
    ·simp
    ·have h1:=rawB_len r;have h2:=rawB_pos r;generalize rawB r=bs at *;refine ⟨h1,by simp;omega,fun _ e=>?_⟩;have e2:bs=[]:=e;rw [e2,List.length_nil] at h2;omega
   ·split
    ·simp
    ·exact rrL_len l f _ _
  ·simp
theorem pcR_len (l:List UInt8) (h:l≠[]):(pcR l).1.length≤4∧(pcR l).2≤l.length∧((pcR l).2≠0→(pcR l).1≠[]):=by
 have hl:1≤l.length:=by
  cases l with
  | nil=>exact absurd rfl h
  | cons a t=>simp
 unfold pcR;split
 ·simp;omega
 ·split
  ·simp
  ·split
   ·simp;omega
   ·split
    ·simp;omega
    ·split
     ·simp;omega
     ·split
      ·simp;omega
      ·split
       ·split
        ·rename_i h3
         simp;omega
        ·simp
       ·split
        ·split
         ·exact rrL_len l 8 0 3
         ·simp
        ·simp
def rdR:Nat→List UInt8→List UInt8→Nat→Option (List UInt8×Nat)
 | 0,_,_,_=>none
 | f+1,acc,l,n=>if l=[] then none else if at0 l 0=34 then some (acc,n+1)
  else if (pcR l).2=0 then none else rdR f (acc++(pcR l).1) (l.drop (pcR l).2) (n+(pcR l).2)
def readR (l:List UInt8):Option (List UInt8×Nat):=if l.take 1=[34] then rdR l.length [] (l.drop 1) 1 else none
def unqR (l:List UInt8):List UInt8×Nat×Int:=match readR l with
 | some (x,n)=>if quoted ⟨x.toArray⟩=l.take n then (x,n,0) else ([],0,13)
 | none=>([],0,13)
theorem rdR_end (f:Nat) (acc:List UInt8) (n:Nat):rdR f acc [] n=none:=by
 cases f
 ·rfl
 ·rw [rdR,if_pos rfl]
theorem take1 (l:List UInt8):l.take 1=[34]↔(l≠[]∧at0 l 0=34):=by
 cases l with
 | nil=>simp
 | cons a t =>
  simp [at0];constructor
  ·rintro rfl;rfl
  ·intro h;exact (ofNat_of_toNat a 34 h.symm).symm
theorem refUnquote_any (s:ByteArray) (hs:s.size≤2097152) (w:World) :
  Calls Tryz.prog 113 #[.string s] w fun e w'=>e=.returned (.tuple #[.string ⟨(unqR s.data.toList).1.toArray⟩,.int .i64 (unqR s.data.toList).2.1,.int .i64 (unqR s.data.toList).2.2])∧Below w.heap.size w w':=by
 obtain ⟨i0,hi,hz0,hz1,hz2⟩:=info_parts info8;have HSZ:Hid (s.size=s.data.toList.length):=size_data s;by_cases h0:s.size=0
 ·have HU:Hid (unqR s.data.toList=([],0,13)):=by
   have e:s.data.toList=[]:=List.length_eq_zero_iff.1 (by rw [← HSZ.out];exact h0);show _=_;rw [e];rfl
  have e0:((s.size:Int)==0)=true:=beq_iff_eq.2 (by omega);clear h0;go_enter Tryz.func113,Tryz.ntmps113;go_wp2_with fail;go_ret3;rw [HU.out];exact ⟨rfl,bE _ _⟩
 have hne0:s.data.toList≠[]:=by
  intro e;rw [e] at HSZ;exact h0 HSZ.out
 have e0:((s.size:Int)==0)=false:=nB (by omega);have hby0:∀ h,(s[0]'h).toNat=at0 s.data.toList 0:=byteAt0 s 0;have hc0:=at0_lt s.data.toList 0;by_cases h34:at0 s.data.toList 0=34
 ·have HR:Hid (readR s.data.toList=rdR s.data.toList.length [] (s.data.toList.drop 1) 1):=by
   show _=_;unfold readR;rw [if_pos ((take1 _).2 ⟨hne0,h34⟩)]
  rw [h34] at hby0;have t34:((34:Int) != 34)=false:=by decide
  clear h34 hc0 hne0;go_enter Tryz.func113,Tryz.ntmps113;go_wp2_with fail;go_loopw [5,6,7,8,9] (fun b i _ _ _ wr=>∃ (pos f:Nat) (acc:List UInt8) (a:Option Addr) (cap:Nat),b=.slice a acc.length cap∧i=.int .i64 pos∧wr.ownsRow w.heap.size 5 1 (.slice a acc.length cap) acc.length (Lib.byteCells acc)∧Below w.heap.size w wr∧pos≤s.size∧s.size≤pos+f∧acc.length≤4*pos∧Hid (rdR f acc (s.data.toList.drop pos) pos=readR s.data.toList)) (fun _ i _ _ _ _=>s.size-(RowKit.intOf i).toNat)
  case atStart=>exact ⟨1,s.size,[],none,0,rfl,rfl,World.ownsRow_nil _ _ _ _,bE _ _,by omega,by omega,by simp,by rw [HR.out,← HSZ.out];rfl⟩
  case round =>
   obtain ⟨pos,f,acc,a,cap,rfl,rfl,hown,HBW,hps,hpf,hal,HA⟩:=hrel;have hszw:=HBW.size;by_cases hp:pos<s.size
   ·obtain ⟨f,rfl⟩:∃ f',f=f'+1:=⟨f-1,by omega⟩;have hne:s.data.toList.drop pos≠[]:=by
     intro e;have:=congrArg List.length e;rw [List.length_drop,← size_data,List.length_nil] at this;omega
    have hA2:=HA.out;rw [rdR,if_neg hne,List.drop_drop] at hA2;have hby:∀ h,(s[pos]'h).toNat=at0 (s.data.toList.drop pos) 0:=byteAt0 s pos;have hb0:=at0_lt (s.data.toList.drop pos) 0;have hpl:=pcR_len (s.data.toList.drop pos) hne;rw [List.length_drop,← HSZ.out] at hpl;obtain ⟨c,hc⟩:∃ c,at0 (s.data.toList.drop pos) 0=c:=⟨_,rfl⟩;rw [hc] at hA2 hby hb0;clear hc hne HA;have gp:decide ((pos:Int)<(s.size:Int))=true:=decide_eq_true (by omega);by_cases k1:c=34
    ·subst k1;rw [if_pos rfl] at hA2;have hq:=conv_own hown;by_cases hqt:quoted ⟨acc.toArray⟩=s.data.toList.take (pos+1)
     ·have HU:Hid (unqR s.data.toList=(acc,pos+1,0)):=by
       show _=_;unfold unqR;rw [← hA2];simp only;rw [if_pos hqt]
      have hqe:=take_of s (pos+1);obtain ⟨qx,hqx⟩:∃ qx:ByteArray,(⟨(quoted ⟨acc.toArray⟩).toArray⟩:ByteArray)=qx:=⟨_,rfl⟩;have hqt2:(qx.toList==(s.extract 0 (pos+1)).toList)=true:=by rw [← hqx,list_of,hqe];rw [hqt];simp
      have hxs:(⟨acc.toArray⟩:ByteArray).size≤20971520:=by rw [sizeL];omega
      have HQX:Hid ((⟨(quoted ⟨acc.toArray⟩).toArray⟩:ByteArray)=qx):=hqx;obtain ⟨X,hX⟩:∃ X:ByteArray,(⟨acc.toArray⟩:ByteArray)=X:=⟨_,rfl⟩;rw [hX] at HQX hxs hq;have HX:Hid ((⟨acc.toArray⟩:ByteArray)=X):=hX;have gp1:(pos:Int)+1≤(s.size:Int):=by omega
      clear hX hqx hqe hqt hA2 hown;go_wp2_with fail;refine (refQuote_any X hxs _).mono ?_;rintro e w4 ⟨rfl,hb4⟩;have hB4:=HBW.trans (hb4.mono HBW.size);clear hb4 HBW;rw [HQX.out];go_wp2_with fail;go_ret3;rw [HU.out,← HX.out];exact ⟨rfl,hB4⟩
     ·have HU:Hid (unqR s.data.toList=([],0,13)):=by
       show _=_;unfold unqR;rw [← hA2];simp only;rw [if_neg hqt]
      have hqe:=take_of s (pos+1);obtain ⟨qx,hqx⟩:∃ qx:ByteArray,(⟨(quoted ⟨acc.toArray⟩).toArray⟩:ByteArray)=qx:=⟨_,rfl⟩;have hqt2:(qx.toList==(s.extract 0 (pos+1)).toList)=false:=by rw [← hqx,list_of,hqe];simpa using hqt
      have hxs:(⟨acc.toArray⟩:ByteArray).size≤20971520:=by rw [sizeL];omega
      have HQX:Hid ((⟨(quoted ⟨acc.toArray⟩).toArray⟩:ByteArray)=qx):=hqx;obtain ⟨X,hX⟩:∃ X:ByteArray,(⟨acc.toArray⟩:ByteArray)=X:=⟨_,rfl⟩;rw [hX] at HQX hxs hq;have HX:Hid ((⟨acc.toArray⟩:ByteArray)=X):=hX;have gp1:(pos:Int)+1≤(s.size:Int):=by omega
      clear hX hqx hqe hqt hA2 hown;go_wp2_with fail;refine (refQuote_any X hxs _).mono ?_;rintro e w4 ⟨rfl,hb4⟩;have hB4:=HBW.trans (hb4.mono HBW.size);clear hb4 HBW;rw [HQX.out];go_wp2_with fail;go_ret3;rw [HU.out];exact ⟨rfl,hB4⟩
    ·rw [if_neg k1] at hA2;have t34c:((c:Int) != 34)=true:=by simp;omega
     have HPC:Hid (∀ w,Calls Tryz.prog 131 #[.string s,.int .i64 pos] w fun e w'=>∃ v,e=.returned (.tuple #[v,.int .i64 (pcR (s.data.toList.drop pos)).2])∧Below w.heap.size w w'∧PieceIs w w' v (pcR (s.data.toList.drop pos)).1):=fun w=>pieceT_any s (by omega) pos hp w
     obtain ⟨⟨bs,n⟩,hpp⟩:∃ d,pcR (s.data.toList.drop pos)=d:=⟨_,rfl⟩;rw [hpp] at hA2 hpl HPC;simp only at hA2 hpl;have HPC2:Hid (∀ w,Calls Tryz.prog 131 #[.string s,.int .i64 pos] w fun e w'=>∃ v,e=.returned (.tuple #[v,.int .i64 n])∧Below w.heap.size w w'∧PieceIs w w' v bs):=HPC.out;clear hpp HPC;by_cases hn0:n=0
     ·subst hn0;rw [if_pos rfl] at hA2;have HU:Hid (unqR s.data.toList=([],0,13)):=by
       show _=_;unfold unqR;rw [← hA2]
      clear hA2;go_wp2_with fail;refine (HPC2.out _).mono ?_;rintro e w4 ⟨v,rfl,hb4,_⟩;have hB4:=HBW.trans (hb4.mono HBW.size);clear hb4 HBW hown;go_wp2_with fail;go_ret3;rw [HU.out];exact ⟨rfl,hB4⟩
     ·rw [if_neg hn0] at hA2;have HA3:Hid (rdR f (acc++bs) (List.drop (pos+n) s.data.toList) (pos+n)=readR s.data.toList):=hA2;have hbne:=hpl.2.2 hn0;have tn0:((n:Int)==0)=false:=nB (by omega);clear hA2;go_wp2_with fail;refine (HPC2.out _).mono ?_;rintro e w4 ⟨v,rfl,hb4,hpi⟩;rcases hpi with ⟨hbn,_⟩|⟨gq,C,T,rfl,hhq,hC,hgq0⟩
      ·exact absurd hbn hbne
      have hown2:=own_keep hown hb4;have hB4:=HBW.trans (hb4.mono HBW.size);have HQ:Hid (∀ x,x<bs.length→w4.cell? ⟨gq,x,none⟩=some (.int .u8 (bs.getD x 0).toNat)):=fun x hx=>by
       simp only [World.cell?,hhq];rw [← Array.getElem?_toList,hC];simp [Lib.byteCells,List.getElem?_eq_getElem hx,List.getD_eq_getElem?_getD]
      have hgq4:gq<w4.heap.size:=(gA hhq);have hne4:(Value.slice a acc.length cap).ownBlock≠some gq:=by
       intro e1;rcases hown.2 with ⟨e2,_⟩|⟨g',cap',cur,e2,_,hh,_⟩
       ·simp only [Value.slice.injEq] at e2;obtain ⟨rfl,_,_⟩:=e2;simp [Value.ownBlock] at e1
       ·simp only [Value.slice.injEq] at e2;obtain ⟨rfl,_,_⟩:=e2;simp [Value.ownBlock] at e1;have:=(gA hh);omega
      clear hb4 HBW hown hhq hC hbne hgq0;have hbl:bs.length≤4:=hpl.1;go_wp2_with fail
      go_loopw [5,9] (fun b k w'=>∃ (i:Nat) (ab:Option Addr) (cb:Nat),i≤bs.length∧b=.slice ab (acc.length+i) cb∧k=.int .i64 i∧w'.ownsRow w.heap.size 5 1 (.slice ab (acc.length+i) cb) (acc.length+i) (Lib.byteCells acc++Lib.byteCells (bs.take i))∧Below w.heap.size w w' ∧
       (Value.slice ab (acc.length+i) cb).ownBlock≠some gq∧gq<w'.heap.size∧Hid (∀ x,x<bs.length→w'.cell? ⟨gq,x,none⟩=some (.int .u8 (bs.getD x 0).toNat))) (fun _ k _=>bs.length-(RowKit.intOf k).toNat)
      case atStart=>exact ⟨0,a,cap,Nat.zero_le _,rfl,rfl,by rw [List.take_zero,Nat.add_zero,show Lib.byteCells []=[] from rfl,List.append_nil];exact hown2,hB4,hne4,hgq4,HQ⟩
      case round =>
       clear hown2 hB4 hne4 hgq4 HQ;obtain ⟨i,ab,cb,hiw,rfl,rfl,hown,hb,hne,hgq,HQ⟩:=hrel;have hsz:=hb.size;by_cases hi2:i<bs.length
       ·have hcq:=HQ.out i hi2;have HT:Hid (Lib.byteCells (bs.take i)++[Value.int .u8 (bs.getD i 0).toNat]=Lib.byteCells (bs.take (i+1))):=take_snoc8 bs i hi2;have hbv:(bs.getD i 0).toNat<256:=(bs.getD i 0).toNat_lt;generalize (bs.getD i 0).toNat=bv at *;go_wp2_with (at_builtin;refine wpList_append_own_at _ rfl _ _ 85 rfl w.heap.size 5 i0 (.int .u8 0) 1 1 Tryz.underlying85 hi hz0 hz1 hz2 rfl (by decide) _ _ _ rfl (hown.alloc _) ⟨_,0,none⟩ 1 1 [.int .u8 bv] rfl rfl ?c1 ?c2 ?c3 ?c4 ?c5 ?_)
        case c1=>exact cell_new8 _ _ _
        case c2=>first|rfl|(intro u hu;simp at hu;subst hu;rfl)
        case c3=>unfold maxLen;omega
        case c4=>omega
        case c5=>first|omega|(simp;omega)
        intro v' w3 hown' hgrow _ hblk;rw [HT.out] at hown';have hb3:Below w.heap.size w w3:=(hb.alloc hsz _).grown hgrow (by simp;omega) (fun g hg=>own_ge hown hg);have hgs:=hgrow.size;have hgq3:gq<w3.heap.size:=by simp at hgs;omega
        have HQ3:Hid (∀ x,x<bs.length→w3.cell? ⟨gq,x,none⟩=some (.int .u8 (bs.getD x 0).toNat)):=fun x hx=>by
         have h1:=((bE wr.heap.size wr).alloc (lR _) (.cells #[.int .u8 bv] 5)).cell (p:=⟨gq,x,none⟩) hgq;exact hgrow.cell (h1.trans (HQ.out x hx)) (fun e=>hne e.symm)
        have hne3:v'.ownBlock≠some gq:=by
         rcases hblk with e|e
         ·rw [e];exact hne
         ·rw [e];intro e2;simp at e2;omega
        obtain ⟨a',cap',rfl⟩:∃ a' cap',v'=.slice a' (acc.length+i+1) cap':=by
         rcases hown'.2 with ⟨_,h0⟩|⟨g',cap',cur,e,_⟩
         ·omega
         ·exact ⟨_,_,e⟩
        clear hown hgrow hb hblk hne HQ hcq;go_wp2_with fail;go_roundw
        case rel=>exact ⟨i+1,a',cap',by omega,rfl,by go_num,hown',hb3,hne3,hgq3,HQ3⟩
        case measure=>simp [RowKit.intOf];omega
       ·have hiw2:i=bs.length:=by omega
        subst hiw2;rw [List.take_length,← byteCells_append] at hown;clear HQ hne;go_wp2_with fail;go_roundw
        case rel=>exact ⟨pos+n,f,acc++bs,ab,cb,by rw [List.length_append],by go_num,by rw [List.length_append];exact hown,hb,by omega,by omega,by rw [List.length_append];omega,HA3⟩
        case measure=>simp [RowKit.intOf];omega
   ·have hA2:=HA.out;rw [List.drop_eq_nil_of_le (by rw [← HSZ.out];omega),rdR_end] at hA2;have HU:Hid (unqR s.data.toList=([],0,13)):=by
     show _=_;unfold unqR;rw [← hA2]
    have gp:decide ((pos:Int)<(s.size:Int))=false:=decide_eq_false (by omega);have gp2:(s.size:Int)≤(pos:Int):=by omega
    clear hA2 HA;go_wp2_with fail;go_ret3;rw [HU.out];exact ⟨rfl,HBW⟩
 ·have HU:Hid (unqR s.data.toList=([],0,13)):=by
   show _=_;unfold unqR readR;rw [if_neg (fun h=>h34 ((take1 _).1 h).2)]
  obtain ⟨c,hc⟩:∃ c,at0 s.data.toList 0=c:=⟨_,rfl⟩;rw [hc] at hby0 h34 hc0;clear hc hne0;have t34:((c:Int) != 34)=true:=by simp;omega
  go_enter Tryz.func113,Tryz.ntmps113;go_wp2_with fail;go_ret3;rw [HU.out];exact ⟨rfl,bE _ _⟩
theorem hexI_hexd (d:Nat) (h:d<16):hexI (hexd d).toNat=d:=by
 have:∀ m:Fin 16,hexI (hexd m.val).toNat=(m.val:Int):=by decide
 exact this ⟨d,h⟩
theorem hexN_get (u:Nat):∀ n i,i<n→(hexN u n).getD i 0=hexd (u / 16 ^ (n-1-i) % 16)
 | 0,i,h=>absurd h (Nat.not_lt_zero _)
 | n+1,0,_=>by
  rw [hexN];simp
 | n+1,i+1,h=>by
  rw [hexN,List.getD_cons_succ,hexN_get u n i (by omega)];rw [show n-1-i=n+1-1-(i+1) by omega]
theorem at_digit (u nd i:Nat) (t:List UInt8) (h:i<nd):at0 ([92,117,123]++hexN u nd++125::t) (3+i)=(hexd (u / 16 ^ (nd-1-i) % 16)).toNat:=by
 unfold at0;have e:([92,117,123]++hexN u nd++125::t).getD (3+i) 0=(hexN u nd).getD i 0:=by
  simp only [List.getD_eq_getElem?_getD];rw [List.append_assoc,List.getElem?_append_right (by simp),List.getElem?_append_left (by rw [hexN_length];simp;omega)];simp
 rw [e,hexN_get u nd i h]
theorem at_close (u nd:Nat) (t:List UInt8):at0 ([92,117,123]++hexN u nd++125::t) (3+nd)=125:=by
 unfold at0;have e:([92,117,123]++hexN u nd++125::t).getD (3+nd) 0=125:=by
  simp only [List.getD_eq_getElem?_getD];have h0:3+nd-([92,117,123]++hexN u nd).length=0:=by rw [List.length_append,hexN_length];simp
  rw [List.getElem?_append_right (by rw [List.length_append,hexN_length];simp),h0];rfl
 rw [e];rfl
theorem rr_read (u nd:Nat) (t:List UInt8) (hu:u≤1114111) (h1:1≤nd) (h6:nd≤6):∀ j f,j≤nd→j+1≤f→rrL ([92,117,123]++hexN u nd++125::t) f (u / 16 ^ j) (3+(nd-j))=(rawB u,3+nd+1)
 | 0,f,hj,hf=>by
  obtain ⟨f,rfl⟩:∃ f',f=f'+1:=⟨f-1,by omega⟩;rw [rrL,Nat.sub_zero,at_close,if_pos ⟨by simp [hexN_length];omega,by omega⟩,if_pos rfl,if_neg (by simp;omega)];simp
 | j+1,f,hj,hf=>by
  obtain ⟨f,rfl⟩:∃ f',f=f'+1:=⟨f-1,by omega⟩;have hm:u / 16 ^ j % 16<16:=Nat.mod_lt _ (by decide);have ha:=at_digit u nd (nd-(j+1)) t (by omega);rw [show nd-1-(nd-(j+1))=j by omega] at ha;have hne:(hexd (u / 16 ^ j % 16)).toNat≠125:=by
   intro e;exact (hexd_ne _ hm).1 (ofNat_of_toNat (hexd (u / 16 ^ j % 16)) 125 e.symm).symm
  rw [rrL,ha,if_pos ⟨by simp [hexN_length];omega,by omega⟩,if_neg hne,hexI_hexd _ hm,if_neg (by omega)];have e:16*(u / 16 ^ (j+1))+((u / 16 ^ j % 16:Nat):Int).toNat=u / 16 ^ j:=by
   rw [Nat.pow_succ,← Nat.div_div_eq_div_mul];omega
  rw [e,show 3+(nd-(j+1))+1=3+(nd-j) by omega];exact rr_read u nd t hu h1 h6 j f (by omega) (by omega)
theorem pcR_rune (r:Nat) (h:r≤1114111) (hv:Utf8.valid (r:Int)=true) (t:List UInt8):pcR ([92,117,123]++hexL r++[125]++t)=(encB r,([92,117,123]++hexL r++[125]).length):=by
 have hl:[92,117,123]++hexL r++[125]++t=[92,117,123]++hexN r (ndig r)++125::t:=by unfold hexL;simp
 have h3:=rr_read r (ndig r) t h (ndig_pos r) (ndig_le r) (ndig r) 8 (lR _) (by have:=ndig_le r;omega);rw [ndig_zero r h,Nat.sub_self,Nat.add_zero] at h3;have e1:at0 ([92,117,123]++hexN r (ndig r)++125::t) 0=92:=rfl;have e2:at0 ([92,117,123]++hexN r (ndig r)++125::t) 1=117:=rfl;have e3:at0 ([92,117,123]++hexN r (ndig r)++125::t) 2=123:=rfl;have hr:rawB r=encB r:=by unfold rawB;rw [if_pos hv]
 rw [hl];unfold pcR;rw [e1,e2,e3,if_neg (by decide),if_neg (by simp),if_neg (by decide),if_neg (by decide),if_neg (by decide),if_neg (by decide),if_neg (by decide),if_pos rfl,if_pos ⟨by simp,rfl⟩,h3,hr];unfold hexL;simp [hexN_length];omega
theorem pcR_byte (b:Nat) (h1:16≤b) (h2:b≤255) (t:List UInt8):pcR ([92,120]++hexL b++t)=([UInt8.ofNat b],([92,120]++hexL b).length):=by
 have hn:hexL b=[hexd (b / 16 % 16),hexd (b % 16)]:=by
  have:ndig b=2:=by unfold ndig;rw [if_neg (by omega),if_pos (by omega)]
  unfold hexL;rw [this];simp [hexN]
 rw [hn];have e1:at0 ([92,120]++[hexd (b / 16 % 16),hexd (b % 16)]++t) 0=92:=rfl;have e2:at0 ([92,120]++[hexd (b / 16 % 16),hexd (b % 16)]++t) 1=120:=rfl;have e3:at0 ([92,120]++[hexd (b / 16 % 16),hexd (b % 16)]++t) 2=(hexd (b / 16 % 16)).toNat:=rfl;have e4:at0 ([92,120]++[hexd (b / 16 % 16),hexd (b % 16)]++t) 3=(hexd (b % 16)).toNat:=rfl;unfold pcR;rw [e1,e2,e3,e4,hexI_hexd _ (Nat.mod_lt _ (by decide)),hexI_hexd _ (Nat.mod_lt _ (by decide)),if_neg (by decide),if_neg (by simp),if_neg (by decide),if_neg (by decide),if_neg (by decide),if_neg (by decide),if_pos rfl,if_pos ⟨by simp,by omega,by omega⟩];have e5:(16*((b / 16 % 16:Nat):Int)+((b % 16:Nat):Int)).toNat=b:=by omega
 rw [e5];rfl
theorem rd_escR (p t bs:List UInt8) (g:Nat) (acc:List UInt8) (n:Nat) (h0:at0 (p++t) 0≠34) (hp:1≤p.length) (he:pcR (p++t)=(bs,p.length)):rdR (g+1) acc (p++t) n=rdR g (acc++bs) t (n+p.length):=by
 have hne:p++t≠[]:=by
  intro e;have:=congrArg List.length e;rw [List.length_append,List.length_nil] at this;omega
 rw [rdR,if_neg hne,if_neg h0,he];simp only;rw [if_neg (by omega),List.drop_left]
theorem piece_readR (l:List UInt8) (h0:l≠[]) (g:Nat) (acc t:List UInt8) (n:Nat):rdR (g+1) acc (pieceL l++t) n=rdR g (acc++l.take (dec l).2) t (n+(pieceL l).length):=by
 cases hb:brkL l with
 | true =>
  have h1:=brk_one l h0 hb;have h2:=at0_lt l 0;have hp:pieceL l=[92,120]++hexL (at0 l 0):=by unfold pieceL;rw [if_pos hb]
  have ht:l.take (dec l).2=[UInt8.ofNat (at0 l 0)]:=by
   rw [h1.1];cases l with
   | nil=>exact absurd rfl h0
   | cons b u=>simp [at0]
  rw [hp,ht];exact rd_escR _ t _ g acc n (show (92:Nat)≠34 by decide) (by simp) (pcR_byte _ (by omega) (by omega) t)
 | false =>
  obtain ⟨hv,hw,rest,hl⟩:=enc_dec l h0 hb;have hp:pieceL l=qR (dec l).1:=by unfold pieceL;rw [if_neg (by rw [hb];decide)]
  have ht:l.take (dec l).2=encB (dec l).1:=by
   rw [hw];generalize encB (dec l).1=e at *;rw [hl,List.take_left]
  have hle:=(valid_le hv).2.1;rw [hp,ht];generalize (dec l).1=r at *;clear hl hw hp ht hb;by_cases k1:r=34
  ·subst k1;have e:encB ((34:Nat):Int)=[34]:=encB1 34 (by decide);rw [e];exact rd_escR [92,34] t [34] g acc n (show (92:Nat)≠34 by decide) (by decide) (by unfold pcR;rw [show at0 ([92,34]++t) 0=92 from rfl,show at0 ([92,34]++t) 1=34 from rfl,if_neg (by decide),if_neg (by simp),if_pos rfl];rfl)
  by_cases k2:r=92
  ·subst k2;have e:encB ((92:Nat):Int)=[92]:=encB1 92 (by decide);rw [e];exact rd_escR [92,92] t [92] g acc n (show (92:Nat)≠34 by decide) (by decide) (by unfold pcR;rw [show at0 ([92,92]++t) 0=92 from rfl,show at0 ([92,92]++t) 1=92 from rfl,if_neg (by decide),if_neg (by simp),if_neg (by decide),if_pos rfl];rfl)
  by_cases k3:r=10
  ·subst k3;have e:encB ((10:Nat):Int)=[10]:=encB1 10 (by decide);rw [e];exact rd_escR [92,110] t [10] g acc n (show (92:Nat)≠34 by decide) (by decide) (by unfold pcR;rw [show at0 ([92,110]++t) 0=92 from rfl,show at0 ([92,110]++t) 1=110 from rfl,if_neg (by decide),if_neg (by simp),if_neg (by decide),if_neg (by decide),if_pos rfl];rfl)
  by_cases k4:r=9
  ·subst k4;have e:encB ((9:Nat):Int)=[9]:=encB1 9 (by decide);rw [e];exact rd_escR [92,116] t [9] g acc n (show (92:Nat)≠34 by decide) (by decide) (by unfold pcR;rw [show at0 ([92,116]++t) 0=92 from rfl,show at0 ([92,116]++t) 1=116 from rfl,if_neg (by decide),if_neg (by simp),if_neg (by decide),if_neg (by decide),if_neg (by decide),if_pos rfl];rfl)
  by_cases k5:32≤r∧r≤126
  ·have hq:qR r=[UInt8.ofNat r]:=by
    unfold qR;rw [if_neg k1,if_neg k2,if_neg k3,if_neg k4,if_pos k5]
   rw [hq,encB1 r (by omega)];have ha:at0 ([UInt8.ofNat r]++t) 0=r:=by
    show (UInt8.ofNat r).toNat=r;exact ofNat_toNat r (by omega)
   exact rd_escR [UInt8.ofNat r] t [UInt8.ofNat r] g acc n (by rw [ha];exact k1) (by simp) (by unfold pcR;rw [ha,if_pos k2];rfl)
  ·have hq:qR r=[92,117,123]++hexL r++[125]:=by
    unfold qR;rw [if_neg k1,if_neg k2,if_neg k3,if_neg k4,if_neg k5]
   rw [hq];exact rd_escR _ t _ g acc n (show (92:Nat)≠34 by decide) (by simp) (pcR_rune r (by omega) hv t)
theorem rd_quoR:∀ (f:Nat) (l:List UInt8),l.length≤f→∀ (g:Nat) (acc:List UInt8) (n:Nat) (rest:List UInt8),(quoL f l).length+1≤g→rdR g acc (quoL f l++34::rest) n=some (acc++l,n+(quoL f l).length+1)
 | f,[],_,g,acc,n,rest,hg=>by
  rw [quoL_end] at hg ⊢;obtain ⟨g,rfl⟩:∃ g',g=g'+1:=⟨g-1,by omega⟩;rw [rdR,if_neg (by simp),if_pos (by rfl)];simp
 | 0,b::t,h,_,_,_,_,_=>by simp at h
 | f+1,b::t,h,g,acc,n,rest,hg=>by
  have hne:b::t≠[]:=by simp
  rw [quoL_step f _ hne] at hg ⊢;have hpl:=pieceL_len (b::t);have hw:1≤(dec (b::t)).2:=by
   have:=width_pos ⟨(b::t).toArray⟩ 0;rw [decode_dec] at this;simpa using this
  rw [List.length_append] at hg ⊢;obtain ⟨g,rfl⟩:∃ g',g=g'+1:=⟨g-1,by omega⟩;rw [List.append_assoc,piece_readR _ hne];have ih:=rd_quoR f ((b::t).drop (dec (b::t)).2) (by rw [List.length_drop];simp at h ⊢;omega) g (acc++(b::t).take (dec (b::t)).2) (n+(pieceL (b::t)).length) rest (by omega);rw [ih,List.append_assoc,List.take_append_drop];simp only [Option.some.injEq,Prod.mk.injEq,true_and];omega
theorem read_quotedR (x:ByteArray) (rest:List UInt8):readR (quoted x++rest)=some (x.data.toList,(quoted x).length):=by
 unfold readR quoted;rw [if_pos (by rfl)];have e:List.drop 1 ([34]++quoL x.size x.data.toList++[34]++rest)=quoL x.size x.data.toList++34::rest:=by simp
 rw [e,rd_quoR x.size x.data.toList (by rw [← size_data];exact lR _) _ [] 1 rest (by simp)];simp;omega
end Go.Proofs.YtijpfbcippijoaaGreatDoor
