import Derived.Test.YtijpfbcippijoaaGreatDoorAl
import Derived.Test.YtijpfbcippijoaaGreatDoorGr125
import Derived.Test.YtijpfbcippijoaaGreatDoorQlH
set_option maxHeartbeats 4000000
set_option maxRecDepth 100000
namespace Go.Proofs.YtijpfbcippijoaaGreatDoor
open Go.RowKit Go.Lib Sp
def textG (r:List UInt8) (k:Nat):ByteArray:=if k+1≤r.length then bs (unqR (r.drop (k+1))).1 else ⟨#[]⟩
theorem gGuess_ins (l:List UInt8) (hl:l.length≤2097152) (w:World)
  (h0:(wordG 32 l ((wordG 32 l 0).2+1)).1=[105,110,115]) :
  Calls Tryz.prog 83 #[.string (bs l)] w fun e w'=>e=.returned (opVal ⟨(idG (wordG 32 l 0).1).1,(idG (wordG 32 l 0).1).2,1,numG (wordG 32 (restG l (wordG 32 l ((wordG 32 l 0).2+1)).2) 0).1,textG (restG l (wordG 32 l ((wordG 32 l 0).2+1)).2) (wordG 32 (restG l (wordG 32 l ((wordG 32 l 0).2+1)).2) 0).2,[],0,0,false⟩ (.slice none 0 0))∧Below w.heap.size w w':=by
 have hA:=gWord_G 32 l (by omega) 0 (by omega);have hle1:=wordG_le 32 l 0;obtain ⟨W1,hW1⟩:∃ p,wordG 32 l 0=p:=⟨_,rfl⟩;obtain ⟨a1,i1⟩:=W1;rw [hW1] at hA hle1 h0 ⊢;simp only at hA hle1 h0 ⊢;have hB:=gWord_G 32 l (by omega) (i1+1) (by omega);have hle2:=wordG_le 32 l (i1+1);obtain ⟨W2,hW2⟩:∃ p,wordG 32 l (i1+1)=p:=⟨_,rfl⟩;obtain ⟨a2,i2⟩:=W2;rw [hW2] at hB hle2 h0 ⊢;simp only at hB hle2 h0 ⊢;simp only [opVal];have HA:Hid (∀ w:World,Calls Tryz.prog 110 #[.string (bs l),.int .i64 0,.int .u8 32] w fun e w'=>e=.returned (.tuple #[.string (bs a1),.int .i64 (i1:Int)])∧w'=w):=hA;have HB:Hid (∀ w:World,Calls Tryz.prog 110 #[.string (bs l),.int .i64 ((i1:Int)+1),.int .u8 32] w fun e w'=>e=.returned (.tuple #[.string (bs a2),.int .i64 (i2:Int)])∧w'=w):=hB;have HP:Hid (∀ w:World,Calls Tryz.prog 111 #[.string (bs a1),.int .u8 46] w fun e w'=>e=.returned (.tuple #[.int .i64 (pairG 46 a1).1,.int .i64 (pairG 46 a1).2])∧w'=w):=fun w=>gPair_G 46 a1 (by omega) w
 have hsz:(bs l).size=l.length:=bs_size l;have k1:IntKind.i64.wrap ((i1:Int)+1)=(i1:Int)+1:=IntWalk.i64_in _ (by omega);have k2:IntKind.i64.wrap ((i2:Int)+1)=(i2:Int)+1:=IntWalk.i64_in _ (by omega);have hl2:(bs a2).toList=a2:=list_of a2;have t1:((bs a2).toList==[105,110,115])=true:=by rw [hl2,h0];rfl
 have t2:((bs a2).toList==[104,105,100,101])=false:=by rw [hl2,h0];rfl
 have t3:((bs a2).toList==[115,104,111,119])=false:=by rw [hl2,h0];rfl
 have t4:((bs a2).toList==[111,110])=false:=by rw [hl2,h0];rfl
 have t5:((bs a2).toList==[111,102,102])=false:=by rw [hl2,h0];rfl
 have hl1:(bs a1).toList=a1:=list_of a1;have HID:Hid (idG a1=if a1=[45] then (0,0) else pairG 46 a1):=rfl;obtain ⟨V,hV⟩:∃ V,(w.alloc (Obj.cells #[.int .i64 0,.int .i64 0,.int .i64 0,.int .i64 0,.string ⟨#[]⟩,.slice none 0 0,.int .i64 0,.int .i64 0,.bool false] 44)).alloc (Obj.cells #[.int .i64 0,.int .i64 0,.int .i64 0,.int .i64 0,.string ⟨#[]⟩,.slice none 0 0,.int .i64 0,.int .i64 0,.bool false] 44)=V:=⟨_,rfl⟩;have hX:Below w.heap.size w V:=by rw [← hV];exact ((bE w.heap.size w).alloc (lR _) _).alloc (by simp) _
 have hx0:V.heap[w.heap.size]?=some (Obj.cells #[.int .i64 0,.int .i64 0,.int .i64 0,.int .i64 0,.string ⟨#[]⟩,.slice none 0 0,.int .i64 0,.int .i64 0,.bool false] 44):=by rw [← hV];exact (Below.heap_alloc _ _ _ (by simp)).trans (alloc_last _ _ _ rfl)
 have hx1:V.heap[w.heap.size+1]?=some (Obj.cells #[.int .i64 0,.int .i64 0,.int .i64 0,.int .i64 0,.string ⟨#[]⟩,.slice none 0 0,.int .i64 0,.int .i64 0,.bool false] 44):=by rw [← hV];exact alloc_last _ _ _ (by simp)
 have hrl:(restG l i2).length≤l.length:=by unfold restG;rw [List.length_drop];omega
 obtain ⟨r,hr⟩:∃ r,restG l i2=r:=⟨_,rfl⟩;rw [hr] at hrl ⊢;have hC:∀ w:World,Calls Tryz.prog 110 #[.string (bs r),.int .i64 0,.int .u8 32] w fun e w'=>e=.returned (.tuple #[.string (bs (wordG 32 r 0).1),.int .i64 ((wordG 32 r 0).2:Int)])∧w'=w:=fun w=>gWord_G 32 r (by omega) 0 (by omega) w
 have hle3:=wordG_le 32 r 0;obtain ⟨W3,hW3⟩:∃ p,wordG 32 r 0=p:=⟨_,rfl⟩;obtain ⟨a3,i3⟩:=W3;rw [hW3] at hC hle3 ⊢;simp only at hC hle3 ⊢;have HNB:Hid (∀ w:World,Calls Tryz.prog 112 #[.string (bs a3)] w fun e w'=>e=.returned (.int .i64 (numG a3))∧w'=w):=fun w=>gNumber_G a3 (by omega) w
 have k3:IntKind.i64.wrap ((i3:Int)+1)=(i3:Int)+1:=IntWalk.i64_in _ (by omega);have hUQ:∀ w:World,Calls Tryz.prog 113 #[.string (bs (r.drop (i3+1)))] w fun e w'=>e=.returned (.tuple #[.string (bs (unqR (r.drop (i3+1))).1),.int .i64 (unqR (r.drop (i3+1))).2.1,.int .i64 (unqR (r.drop (i3+1))).2.2])∧Below w.heap.size w w':=fun w=>refUnquote_any (bs (r.drop (i3+1))) (by rw [bs_size,List.length_drop];omega) w
 have hrsz:(bs r).size=r.length:=bs_size r;clear hA hB hW1 hW2 hW3 h0 hl2 hle1 hle2 hle3;generalize numG a3=np at *;generalize bs a3=A3 at *;by_cases hk:i2+1≤l.length
 ·have g1:(i2:Int)+1≤(l.length:Int):=by omega
  have eR0:(bs l).extract (i2+1) l.length=bs r:=by
   rw [← hr,bs_ext];unfold restG;rw [List.take_of_length_le (by rw [List.length_drop];exact lR _)]
  have eQ0:(bs r).extract (i3+1) r.length=bs (r.drop (i3+1)):=by
   rw [bs_ext,List.take_of_length_le (by rw [List.length_drop];exact lR _)]
  clear hr;obtain ⟨R,hR⟩:∃ R,bs r=R:=⟨_,rfl⟩;rw [hR] at hC eR0 eQ0 hrsz;have eR:=eR0;have HC:Hid (∀ w:World,Calls Tryz.prog 110 #[.string R,.int .i64 0,.int .u8 32] w fun e w'=>e=.returned (.tuple #[.string A3,.int .i64 (i3:Int)])∧w'=w):=hC;clear hC hR eR0;by_cases hk2:i3+1≤r.length
  ·have g2:(i3:Int)+1≤(r.length:Int):=by omega
   rw [show textG r i3=bs (unqR (r.drop (i3+1))).1 from by unfold textG;rw [if_pos hk2]];obtain ⟨Q,hQ⟩:∃ Q,bs (r.drop (i3+1))=Q:=⟨_,rfl⟩;rw [hQ] at hUQ eQ0;have eQ:=eQ0;generalize bs (unqR (r.drop (i3+1))).1=tx at *;generalize (unqR (r.drop (i3+1))).2.1=u1 at *;generalize (unqR (r.drop (i3+1))).2.2=u2 at *;have HUQ:Hid (∀ w:World,Calls Tryz.prog 113 #[.string Q] w fun e w'=>e=.returned (.tuple #[.string tx,.int .i64 u1,.int .i64 u2])∧Below w.heap.size w w'):=hUQ;clear hUQ hQ eQ0;by_cases hd:a1=[45]
   ·have t0:((bs a1).toList==[45])=true:=by rw [hl1,hd];rfl
    rw [show idG a1=(0,0) from by unfold idG;rw [if_pos hd]];dsimp only;clear hd hl1 HID;generalize bs a1=A1 at *;generalize bs a2=A2 at *;clear HP;obtain ⟨⟨od0,od1,od2,od3,od4,od5,od6,od7,od8⟩,oz0,oz1,oz2,oz3,oz4,oz5,oz6,oz7,oz8⟩:=cf9 hx1;obtain ⟨V2,hV2,V2Y,V2X,V2B⟩:=st9_2 hx0 hx1 hX (.int .i64 1);obtain ⟨⟨sd0,sd1,sd2,sd3,sd4,sd5,sd6,sd7,sd8⟩,sz0,sz1,sz2,sz3,sz4,sz5,sz6,sz7,sz8⟩:=cf9 V2Y;obtain ⟨V3,hV3,V3Y,V3X,V3B⟩:=st9_3 V2X V2Y V2B (.int .i64 np);obtain ⟨⟨ud0,ud1,ud2,ud3,ud4,ud5,ud6,ud7,ud8⟩,uz0,uz1,uz2,uz3,uz4,uz5,uz6,uz7,uz8⟩:=cf9 V3Y;go_enter Tryz.func83,Tryz.ntmps83;go_wp2_with fail
    (try simp only [hV])
    refine (HA.out _).mono ?_;rintro e w3 ⟨rfl,hw⟩;obtain rfl:=hw.symm;clear hw;go_wp2_with fail;refine (HB.out _).mono ?_;rintro e w3 ⟨rfl,hw⟩;obtain rfl:=hw.symm;clear hw;go_wp2_with fail
    (try simp only [hV2])
    (try go_wp2_with fail)
    refine (HC.out _).mono ?_;rintro e w3 ⟨rfl,hw⟩;obtain rfl:=hw.symm;clear hw;go_wp2_with fail;refine (HNB.out _).mono ?_;rintro e w3 ⟨rfl,hw⟩;obtain rfl:=hw.symm;clear hw;go_wp2_with fail
    (try simp only [hV3])
    (try go_wp2_with fail)
    refine (HUQ.out _).mono ?_;rintro e w4 ⟨rfl,hb4⟩;have w4Y:=(hb4.block _ (gA V3Y)).trans V3Y;have w4X:=(hb4.block _ (gA V3X)).trans V3X;have w4B:=V3B.trans (hb4.mono V3B.size);clear hb4;obtain ⟨⟨md0,md1,md2,md3,md4,md5,md6,md7,md8⟩,mz0,mz1,mz2,mz3,mz4,mz5,mz6,mz7,mz8⟩:=cf9 w4Y;obtain ⟨V5,hV5,V5Y,V5X,V5B⟩:=st9_4 w4X w4Y w4B (.string tx);obtain ⟨⟨vd0,vd1,vd2,vd3,vd4,vd5,vd6,vd7,vd8⟩,vz0,vz1,vz2,vz3,vz4,vz5,vz6,vz7,vz8⟩:=cf9 V5Y;obtain ⟨⟨pd0,pd1,pd2,pd3,pd4,pd5,pd6,pd7,pd8⟩,pz0,pz1,pz2,pz3,pz4,pz5,pz6,pz7,pz8⟩:=cf9 V5X;have hq8:=q9 V5B (b:=w.heap.size) (lR _) (.int .i64 0) (.int .i64 0) (.int .i64 1) (.int .i64 np) (.string tx) (.slice none 0 0) (.int .i64 0) (.int .i64 0) (.bool false);have hx9:=set9k V5X (.int .i64 0) (.int .i64 0) (.int .i64 1) (.int .i64 np) (.string tx) (.slice none 0 0) (.int .i64 0) (.int .i64 0) (.bool false);obtain ⟨w9,hw9⟩:=exW hx9;rw [hw9] at hx9 hq8;obtain ⟨r0,r1,r2,r3,r4,r5,r6,r7,r8⟩:=cl9 hx9;go_wp2_with fail
    (try simp only [hV5])
    (try go_wp2_with fail)
    all_goals (try rw [hw9])
    all_goals refine bodyPost_ret (v:=.agg #[.int .i64 0,.int .i64 0,.int .i64 1,.int .i64 np,.string tx,.slice none 0 0,.int .i64 0,.int .i64 0,.bool false]) (by simp [results,Tryz.results83,go_sem,r0,r1,r2,r3,r4,r5,r6,r7,r8]) rfl ⟨rfl,hq8⟩
   ·have t0:((bs a1).toList==[45])=false:=by rw [hl1];exact nB hd
    rw [show idG a1=pairG 46 a1 from by unfold idG;rw [if_neg hd]];clear hd hl1 HID;generalize (pairG 46 a1).1=c at *;generalize (pairG 46 a1).2=n at *;generalize bs a1=A1 at *;generalize bs a2=A2 at *;obtain ⟨⟨od0,od1,od2,od3,od4,od5,od6,od7,od8⟩,oz0,oz1,oz2,oz3,oz4,oz5,oz6,oz7,oz8⟩:=cf9 hx1;obtain ⟨V1,hV1,V1Y,V1X,V1B⟩:=st9_01 hx0 hx1 hX (.int .i64 c) (.int .i64 n);obtain ⟨⟨qd0,qd1,qd2,qd3,qd4,qd5,qd6,qd7,qd8⟩,qz0,qz1,qz2,qz3,qz4,qz5,qz6,qz7,qz8⟩:=cf9 V1Y;obtain ⟨V2,hV2,V2Y,V2X,V2B⟩:=st9_2 V1X V1Y V1B (.int .i64 1);obtain ⟨⟨sd0,sd1,sd2,sd3,sd4,sd5,sd6,sd7,sd8⟩,sz0,sz1,sz2,sz3,sz4,sz5,sz6,sz7,sz8⟩:=cf9 V2Y;obtain ⟨V3,hV3,V3Y,V3X,V3B⟩:=st9_3 V2X V2Y V2B (.int .i64 np);obtain ⟨⟨ud0,ud1,ud2,ud3,ud4,ud5,ud6,ud7,ud8⟩,uz0,uz1,uz2,uz3,uz4,uz5,uz6,uz7,uz8⟩:=cf9 V3Y;go_enter Tryz.func83,Tryz.ntmps83;go_wp2_with fail
    (try simp only [hV])
    refine (HA.out _).mono ?_;rintro e w3 ⟨rfl,hw⟩;obtain rfl:=hw.symm;clear hw;go_wp2_with fail;refine (HB.out _).mono ?_;rintro e w3 ⟨rfl,hw⟩;obtain rfl:=hw.symm;clear hw;go_wp2_with fail;refine (HP.out _).mono ?_;rintro e w3 ⟨rfl,hw⟩;obtain rfl:=hw.symm;clear hw;go_wp2_with fail
    (try simp only [hV1])
    (try go_wp2_with fail)
    (try simp only [hV2])
    (try go_wp2_with fail)
    refine (HC.out _).mono ?_;rintro e w3 ⟨rfl,hw⟩;obtain rfl:=hw.symm;clear hw;go_wp2_with fail;refine (HNB.out _).mono ?_;rintro e w3 ⟨rfl,hw⟩;obtain rfl:=hw.symm;clear hw;go_wp2_with fail
    (try simp only [hV3])
    (try go_wp2_with fail)
    refine (HUQ.out _).mono ?_;rintro e w4 ⟨rfl,hb4⟩;have w4Y:=(hb4.block _ (gA V3Y)).trans V3Y;have w4X:=(hb4.block _ (gA V3X)).trans V3X;have w4B:=V3B.trans (hb4.mono V3B.size);clear hb4;obtain ⟨⟨md0,md1,md2,md3,md4,md5,md6,md7,md8⟩,mz0,mz1,mz2,mz3,mz4,mz5,mz6,mz7,mz8⟩:=cf9 w4Y;obtain ⟨V5,hV5,V5Y,V5X,V5B⟩:=st9_4 w4X w4Y w4B (.string tx);obtain ⟨⟨vd0,vd1,vd2,vd3,vd4,vd5,vd6,vd7,vd8⟩,vz0,vz1,vz2,vz3,vz4,vz5,vz6,vz7,vz8⟩:=cf9 V5Y;obtain ⟨⟨pd0,pd1,pd2,pd3,pd4,pd5,pd6,pd7,pd8⟩,pz0,pz1,pz2,pz3,pz4,pz5,pz6,pz7,pz8⟩:=cf9 V5X;have hq8:=q9 V5B (b:=w.heap.size) (lR _) (.int .i64 c) (.int .i64 n) (.int .i64 1) (.int .i64 np) (.string tx) (.slice none 0 0) (.int .i64 0) (.int .i64 0) (.bool false);have hx9:=set9k V5X (.int .i64 c) (.int .i64 n) (.int .i64 1) (.int .i64 np) (.string tx) (.slice none 0 0) (.int .i64 0) (.int .i64 0) (.bool false);obtain ⟨w9,hw9⟩:=exW hx9;rw [hw9] at hx9 hq8;obtain ⟨r0,r1,r2,r3,r4,r5,r6,r7,r8⟩:=cl9 hx9;go_wp2_with fail
    (try simp only [hV5])
    (try go_wp2_with fail)
    all_goals (try rw [hw9])
    all_goals refine bodyPost_ret (v:=.agg #[.int .i64 c,.int .i64 n,.int .i64 1,.int .i64 np,.string tx,.slice none 0 0,.int .i64 0,.int .i64 0,.bool false]) (by simp [results,Tryz.results83,go_sem,r0,r1,r2,r3,r4,r5,r6,r7,r8]) rfl ⟨rfl,hq8⟩
  ·have g2:¬ (i3:Int)+1≤(r.length:Int):=by omega
   rw [show textG r i3=⟨#[]⟩ from by unfold textG;rw [if_neg hk2]];clear hUQ eQ0;by_cases hd:a1=[45]
   ·have t0:((bs a1).toList==[45])=true:=by rw [hl1,hd];rfl
    rw [show idG a1=(0,0) from by unfold idG;rw [if_pos hd]];dsimp only;clear hd hl1 HID;generalize bs a1=A1 at *;generalize bs a2=A2 at *;clear HP;obtain ⟨⟨od0,od1,od2,od3,od4,od5,od6,od7,od8⟩,oz0,oz1,oz2,oz3,oz4,oz5,oz6,oz7,oz8⟩:=cf9 hx1;obtain ⟨V2,hV2,V2Y,V2X,V2B⟩:=st9_2 hx0 hx1 hX (.int .i64 1);obtain ⟨⟨sd0,sd1,sd2,sd3,sd4,sd5,sd6,sd7,sd8⟩,sz0,sz1,sz2,sz3,sz4,sz5,sz6,sz7,sz8⟩:=cf9 V2Y;obtain ⟨V3,hV3,V3Y,V3X,V3B⟩:=st9_3 V2X V2Y V2B (.int .i64 np);obtain ⟨⟨ud0,ud1,ud2,ud3,ud4,ud5,ud6,ud7,ud8⟩,uz0,uz1,uz2,uz3,uz4,uz5,uz6,uz7,uz8⟩:=cf9 V3Y;obtain ⟨⟨pd0,pd1,pd2,pd3,pd4,pd5,pd6,pd7,pd8⟩,pz0,pz1,pz2,pz3,pz4,pz5,pz6,pz7,pz8⟩:=cf9 V3X;have hq8:=q9 V3B (b:=w.heap.size) (lR _) (.int .i64 0) (.int .i64 0) (.int .i64 1) (.int .i64 np) (.string ⟨#[]⟩) (.slice none 0 0) (.int .i64 0) (.int .i64 0) (.bool false);have hx9:=set9k V3X (.int .i64 0) (.int .i64 0) (.int .i64 1) (.int .i64 np) (.string ⟨#[]⟩) (.slice none 0 0) (.int .i64 0) (.int .i64 0) (.bool false);obtain ⟨w9,hw9⟩:=exW hx9;rw [hw9] at hx9 hq8;obtain ⟨r0,r1,r2,r3,r4,r5,r6,r7,r8⟩:=cl9 hx9;go_enter Tryz.func83,Tryz.ntmps83;go_wp2_with fail
    (try simp only [hV])
    refine (HA.out _).mono ?_;rintro e w3 ⟨rfl,hw⟩;obtain rfl:=hw.symm;clear hw;go_wp2_with fail;refine (HB.out _).mono ?_;rintro e w3 ⟨rfl,hw⟩;obtain rfl:=hw.symm;clear hw;go_wp2_with fail
    (try simp only [hV2])
    (try go_wp2_with fail)
    refine (HC.out _).mono ?_;rintro e w3 ⟨rfl,hw⟩;obtain rfl:=hw.symm;clear hw;go_wp2_with fail;refine (HNB.out _).mono ?_;rintro e w3 ⟨rfl,hw⟩;obtain rfl:=hw.symm;clear hw;go_wp2_with fail
    (try simp only [hV3])
    (try go_wp2_with fail)
    all_goals (try rw [hw9])
    all_goals refine bodyPost_ret (v:=.agg #[.int .i64 0,.int .i64 0,.int .i64 1,.int .i64 np,.string ⟨#[]⟩,.slice none 0 0,.int .i64 0,.int .i64 0,.bool false]) (by simp [results,Tryz.results83,go_sem,r0,r1,r2,r3,r4,r5,r6,r7,r8]) rfl ⟨rfl,hq8⟩
   ·have t0:((bs a1).toList==[45])=false:=by rw [hl1];exact nB hd
    rw [show idG a1=pairG 46 a1 from by unfold idG;rw [if_neg hd]];clear hd hl1 HID;generalize (pairG 46 a1).1=c at *;generalize (pairG 46 a1).2=n at *;generalize bs a1=A1 at *;generalize bs a2=A2 at *;obtain ⟨⟨od0,od1,od2,od3,od4,od5,od6,od7,od8⟩,oz0,oz1,oz2,oz3,oz4,oz5,oz6,oz7,oz8⟩:=cf9 hx1;obtain ⟨V1,hV1,V1Y,V1X,V1B⟩:=st9_01 hx0 hx1 hX (.int .i64 c) (.int .i64 n);obtain ⟨⟨qd0,qd1,qd2,qd3,qd4,qd5,qd6,qd7,qd8⟩,qz0,qz1,qz2,qz3,qz4,qz5,qz6,qz7,qz8⟩:=cf9 V1Y;obtain ⟨V2,hV2,V2Y,V2X,V2B⟩:=st9_2 V1X V1Y V1B (.int .i64 1);obtain ⟨⟨sd0,sd1,sd2,sd3,sd4,sd5,sd6,sd7,sd8⟩,sz0,sz1,sz2,sz3,sz4,sz5,sz6,sz7,sz8⟩:=cf9 V2Y;obtain ⟨V3,hV3,V3Y,V3X,V3B⟩:=st9_3 V2X V2Y V2B (.int .i64 np);obtain ⟨⟨ud0,ud1,ud2,ud3,ud4,ud5,ud6,ud7,ud8⟩,uz0,uz1,uz2,uz3,uz4,uz5,uz6,uz7,uz8⟩:=cf9 V3Y;obtain ⟨⟨pd0,pd1,pd2,pd3,pd4,pd5,pd6,pd7,pd8⟩,pz0,pz1,pz2,pz3,pz4,pz5,pz6,pz7,pz8⟩:=cf9 V3X;have hq8:=q9 V3B (b:=w.heap.size) (lR _) (.int .i64 c) (.int .i64 n) (.int .i64 1) (.int .i64 np) (.string ⟨#[]⟩) (.slice none 0 0) (.int .i64 0) (.int .i64 0) (.bool false);have hx9:=set9k V3X (.int .i64 c) (.int .i64 n) (.int .i64 1) (.int .i64 np) (.string ⟨#[]⟩) (.slice none 0 0) (.int .i64 0) (.int .i64 0) (.bool false);obtain ⟨w9,hw9⟩:=exW hx9;rw [hw9] at hx9 hq8;obtain ⟨r0,r1,r2,r3,r4,r5,r6,r7,r8⟩:=cl9 hx9;go_enter Tryz.func83,Tryz.ntmps83;go_wp2_with fail
    (try simp only [hV])
    refine (HA.out _).mono ?_;rintro e w3 ⟨rfl,hw⟩;obtain rfl:=hw.symm;clear hw;go_wp2_with fail;refine (HB.out _).mono ?_;rintro e w3 ⟨rfl,hw⟩;obtain rfl:=hw.symm;clear hw;go_wp2_with fail;refine (HP.out _).mono ?_;rintro e w3 ⟨rfl,hw⟩;obtain rfl:=hw.symm;clear hw;go_wp2_with fail
    (try simp only [hV1])
    (try go_wp2_with fail)
    (try simp only [hV2])
    (try go_wp2_with fail)
    refine (HC.out _).mono ?_;rintro e w3 ⟨rfl,hw⟩;obtain rfl:=hw.symm;clear hw;go_wp2_with fail;refine (HNB.out _).mono ?_;rintro e w3 ⟨rfl,hw⟩;obtain rfl:=hw.symm;clear hw;go_wp2_with fail
    (try simp only [hV3])
    (try go_wp2_with fail)
    all_goals (try rw [hw9])
    all_goals refine bodyPost_ret (v:=.agg #[.int .i64 c,.int .i64 n,.int .i64 1,.int .i64 np,.string ⟨#[]⟩,.slice none 0 0,.int .i64 0,.int .i64 0,.bool false]) (by simp [results,Tryz.results83,go_sem,r0,r1,r2,r3,r4,r5,r6,r7,r8]) rfl ⟨rfl,hq8⟩
 ·have g1:¬ (i2:Int)+1≤(l.length:Int):=by omega
  obtain rfl:r=[]:=by rw [← hr];exact List.drop_eq_nil_of_le (by omega)
  have g2:¬ (i3:Int)+1≤0:=by omega
  rw [show textG [] i3=⟨#[]⟩ from by unfold textG;rw [if_neg (by simp)]];have HC:Hid (∀ w:World,Calls Tryz.prog 110 #[.string ⟨#[]⟩,.int .i64 0,.int .u8 32] w fun e w'=>e=.returned (.tuple #[.string A3,.int .i64 (i3:Int)])∧w'=w):=hC;clear hC hUQ hr hrsz hrl;by_cases hd:a1=[45]
  ·have t0:((bs a1).toList==[45])=true:=by rw [hl1,hd];rfl
   rw [show idG a1=(0,0) from by unfold idG;rw [if_pos hd]];dsimp only;clear hd hl1 HID;generalize bs a1=A1 at *;generalize bs a2=A2 at *;clear HP;obtain ⟨⟨od0,od1,od2,od3,od4,od5,od6,od7,od8⟩,oz0,oz1,oz2,oz3,oz4,oz5,oz6,oz7,oz8⟩:=cf9 hx1;obtain ⟨V2,hV2,V2Y,V2X,V2B⟩:=st9_2 hx0 hx1 hX (.int .i64 1);obtain ⟨⟨sd0,sd1,sd2,sd3,sd4,sd5,sd6,sd7,sd8⟩,sz0,sz1,sz2,sz3,sz4,sz5,sz6,sz7,sz8⟩:=cf9 V2Y;obtain ⟨V3,hV3,V3Y,V3X,V3B⟩:=st9_3 V2X V2Y V2B (.int .i64 np);obtain ⟨⟨ud0,ud1,ud2,ud3,ud4,ud5,ud6,ud7,ud8⟩,uz0,uz1,uz2,uz3,uz4,uz5,uz6,uz7,uz8⟩:=cf9 V3Y;obtain ⟨⟨pd0,pd1,pd2,pd3,pd4,pd5,pd6,pd7,pd8⟩,pz0,pz1,pz2,pz3,pz4,pz5,pz6,pz7,pz8⟩:=cf9 V3X;have hq8:=q9 V3B (b:=w.heap.size) (lR _) (.int .i64 0) (.int .i64 0) (.int .i64 1) (.int .i64 np) (.string ⟨#[]⟩) (.slice none 0 0) (.int .i64 0) (.int .i64 0) (.bool false);have hx9:=set9k V3X (.int .i64 0) (.int .i64 0) (.int .i64 1) (.int .i64 np) (.string ⟨#[]⟩) (.slice none 0 0) (.int .i64 0) (.int .i64 0) (.bool false);obtain ⟨w9,hw9⟩:=exW hx9;rw [hw9] at hx9 hq8;obtain ⟨r0,r1,r2,r3,r4,r5,r6,r7,r8⟩:=cl9 hx9;go_enter Tryz.func83,Tryz.ntmps83;go_wp2_with fail
   (try simp only [hV])
   refine (HA.out _).mono ?_;rintro e w3 ⟨rfl,hw⟩;obtain rfl:=hw.symm;clear hw;go_wp2_with fail;refine (HB.out _).mono ?_;rintro e w3 ⟨rfl,hw⟩;obtain rfl:=hw.symm;clear hw;go_wp2_with fail
   (try simp only [hV2])
   (try go_wp2_with fail)
   refine (HC.out _).mono ?_;rintro e w3 ⟨rfl,hw⟩;obtain rfl:=hw.symm;clear hw;go_wp2_with fail;refine (HNB.out _).mono ?_;rintro e w3 ⟨rfl,hw⟩;obtain rfl:=hw.symm;clear hw;go_wp2_with fail
   (try simp only [hV3])
   (try go_wp2_with fail)
   all_goals (try rw [hw9])
   all_goals refine bodyPost_ret (v:=.agg #[.int .i64 0,.int .i64 0,.int .i64 1,.int .i64 np,.string ⟨#[]⟩,.slice none 0 0,.int .i64 0,.int .i64 0,.bool false]) (by simp [results,Tryz.results83,go_sem,r0,r1,r2,r3,r4,r5,r6,r7,r8]) rfl ⟨rfl,hq8⟩
  ·have t0:((bs a1).toList==[45])=false:=by rw [hl1];exact nB hd
   rw [show idG a1=pairG 46 a1 from by unfold idG;rw [if_neg hd]];clear hd hl1 HID;generalize (pairG 46 a1).1=c at *;generalize (pairG 46 a1).2=n at *;generalize bs a1=A1 at *;generalize bs a2=A2 at *;obtain ⟨⟨od0,od1,od2,od3,od4,od5,od6,od7,od8⟩,oz0,oz1,oz2,oz3,oz4,oz5,oz6,oz7,oz8⟩:=cf9 hx1;obtain ⟨V1,hV1,V1Y,V1X,V1B⟩:=st9_01 hx0 hx1 hX (.int .i64 c) (.int .i64 n);obtain ⟨⟨qd0,qd1,qd2,qd3,qd4,qd5,qd6,qd7,qd8⟩,qz0,qz1,qz2,qz3,qz4,qz5,qz6,qz7,qz8⟩:=cf9 V1Y;obtain ⟨V2,hV2,V2Y,V2X,V2B⟩:=st9_2 V1X V1Y V1B (.int .i64 1);obtain ⟨⟨sd0,sd1,sd2,sd3,sd4,sd5,sd6,sd7,sd8⟩,sz0,sz1,sz2,sz3,sz4,sz5,sz6,sz7,sz8⟩:=cf9 V2Y;obtain ⟨V3,hV3,V3Y,V3X,V3B⟩:=st9_3 V2X V2Y V2B (.int .i64 np);obtain ⟨⟨ud0,ud1,ud2,ud3,ud4,ud5,ud6,ud7,ud8⟩,uz0,uz1,uz2,uz3,uz4,uz5,uz6,uz7,uz8⟩:=cf9 V3Y;obtain ⟨⟨pd0,pd1,pd2,pd3,pd4,pd5,pd6,pd7,pd8⟩,pz0,pz1,pz2,pz3,pz4,pz5,pz6,pz7,pz8⟩:=cf9 V3X;have hq8:=q9 V3B (b:=w.heap.size) (lR _) (.int .i64 c) (.int .i64 n) (.int .i64 1) (.int .i64 np) (.string ⟨#[]⟩) (.slice none 0 0) (.int .i64 0) (.int .i64 0) (.bool false);have hx9:=set9k V3X (.int .i64 c) (.int .i64 n) (.int .i64 1) (.int .i64 np) (.string ⟨#[]⟩) (.slice none 0 0) (.int .i64 0) (.int .i64 0) (.bool false);obtain ⟨w9,hw9⟩:=exW hx9;rw [hw9] at hx9 hq8;obtain ⟨r0,r1,r2,r3,r4,r5,r6,r7,r8⟩:=cl9 hx9;go_enter Tryz.func83,Tryz.ntmps83;go_wp2_with fail
   (try simp only [hV])
   refine (HA.out _).mono ?_;rintro e w3 ⟨rfl,hw⟩;obtain rfl:=hw.symm;clear hw;go_wp2_with fail;refine (HB.out _).mono ?_;rintro e w3 ⟨rfl,hw⟩;obtain rfl:=hw.symm;clear hw;go_wp2_with fail;refine (HP.out _).mono ?_;rintro e w3 ⟨rfl,hw⟩;obtain rfl:=hw.symm;clear hw;go_wp2_with fail
   (try simp only [hV1])
   (try go_wp2_with fail)
   (try simp only [hV2])
   (try go_wp2_with fail)
   refine (HC.out _).mono ?_;rintro e w3 ⟨rfl,hw⟩;obtain rfl:=hw.symm;clear hw;go_wp2_with fail;refine (HNB.out _).mono ?_;rintro e w3 ⟨rfl,hw⟩;obtain rfl:=hw.symm;clear hw;go_wp2_with fail
   (try simp only [hV3])
   (try go_wp2_with fail)
   all_goals (try rw [hw9])
   all_goals refine bodyPost_ret (v:=.agg #[.int .i64 c,.int .i64 n,.int .i64 1,.int .i64 np,.string ⟨#[]⟩,.slice none 0 0,.int .i64 0,.int .i64 0,.bool false]) (by simp [results,Tryz.results83,go_sem,r0,r1,r2,r3,r4,r5,r6,r7,r8]) rfl ⟨rfl,hq8⟩
end Go.Proofs.YtijpfbcippijoaaGreatDoor
