import Derived.Test.YtijpfbcippijoaaGreatDoorAl
import Derived.Test.YtijpfbcippijoaaGreatDoorGr125
import Derived.Test.YtijpfbcippijoaaGreatDoorQlH
set_option maxHeartbeats 16000000
set_option maxRecDepth 100000
namespace Go.Proofs.YtijpfbcippijoaaGreatDoor
open Go.RowKit Go.Lib Sp
def rngsF:Nat→List UInt8→Nat→List (Int×Int)
 | 0,_,_=>[]
 | f+1,r,m=>if r.length<m then [] else pairG 45 (wordG 44 r m).1::rngsF f r ((wordG 44 r m).2+1)
def rngsG (r:List UInt8):List (Int×Int):=rngsF (r.length+1) r 0
theorem wordG_ge {c:UInt8} {r:List UInt8} {m:Nat} (h:m≤r.length):m≤(wordG c r m).2:=by
 unfold wordG;rw [if_neg (by omega)];simp
theorem ownF_atk {w:World} {B:Nat} {a:Option Addr} {m cap:Nat} {l:List (Int×Int)} (h:OwnF rngV 2 76 w B (.slice a m cap) l):∀ g off,a=some ⟨g,off,none⟩→B≤g:=fun g off ha=>by
 rcases h.2 with ⟨e,_⟩|⟨g2,cap2,cur,e,hB,_⟩
 ·injection e with e1 _ _;rw [ha] at e1;cases e1
 ·injection e with e1 _ _;rw [ha] at e1;injection e1 with e2;injection e2 with e3 _ _;omega
theorem ownXk {w:World} {B:Nat} {v:Value} {l:List (Int×Int)} (h:OwnF rngV 2 76 w B v l) {b:Nat} {cs:Array Value} (hb:w.heap[b]?=some (.cells cs 44)) (i:Nat) (u:Value):OwnF rngV 2 76 (w.setCell ⟨b,i,none⟩ u) B v l:=by
 refine ⟨h.1,?_⟩;rcases h.2 with h1|⟨g,cap,cur,e,hB,hh,rest⟩
 ·exact .inl h1
 ·refine .inr ⟨g,cap,cur,e,hB,?_,rest⟩;have hne:g≠b:=fun e=>by subst e;rw [hh] at hb;simp at hb
  exact (Below.heap_setCell _ _ _ _ (by simp only;exact hne)).trans hh
def LoopE (T9 TR:TypeId) (w:World) (VS:Value→Array Value) (Z:Array Value) (vm:Value) (W:World):Prop :=
 ((vm=.int .i64 0∧W.heap[w.heap.size+1]?=some (.cells (VS (.slice none 0 0)) T9))∨(vm=.int .i64 1∧∃ g5 cap5,OwnF rngV 2 TR W (w.heap.size+2) (.slice (some ⟨g5,0,none⟩) 1 cap5) [(-1,-1)]∧W.heap[w.heap.size+1]?=some (.cells (VS (.slice (some ⟨g5,0,none⟩) 1 cap5)) T9)))∧W.heap[w.heap.size]?=some (.cells Z T9)∧Below w.heap.size w W∧w.heap.size+2≤W.heap.size
theorem own9k {W:World} {B b:Nat} {v:Value} {l:List (Int×Int)} {u0 u1 u2 u3 u4 u5 u6 u7 u8:Value} (h:OwnF rngV 2 76 W B v l) (hb:W.heap[b]?=some (.cells #[u0,u1,u2,u3,u4,u5,u6,u7,u8] 44)) (v0 v1 v2 v3 v4 v5 v6 v7 v8:Value):OwnF rngV 2 76 (((((((((W.setCell ⟨b,0,none⟩ v0).setCell ⟨b,1,none⟩ v1).setCell ⟨b,2,none⟩ v2).setCell ⟨b,3,none⟩ v3).setCell ⟨b,4,none⟩ v4).setCell ⟨b,5,none⟩ v5).setCell ⟨b,6,none⟩ v6).setCell ⟨b,7,none⟩ v7).setCell ⟨b,8,none⟩ v8) B v l:=by
 have h0:=(heap_setCell_same _ b 0 _ _ v0 hb).trans (by simp;rfl);have o0:=ownXk h hb 0 v0;have h1:=(heap_setCell_same _ b 1 _ _ v1 h0).trans (by simp;rfl);have o1:=ownXk o0 h0 1 v1;have h2:=(heap_setCell_same _ b 2 _ _ v2 h1).trans (by simp;rfl);have o2:=ownXk o1 h1 2 v2;have h3:=(heap_setCell_same _ b 3 _ _ v3 h2).trans (by simp;rfl);have o3:=ownXk o2 h2 3 v3;have h4:=(heap_setCell_same _ b 4 _ _ v4 h3).trans (by simp;rfl);have o4:=ownXk o3 h3 4 v4;have h5:=(heap_setCell_same _ b 5 _ _ v5 h4).trans (by simp;rfl);have o5:=ownXk o4 h4 5 v5;have h6:=(heap_setCell_same _ b 6 _ _ v6 h5).trans (by simp;rfl);have o6:=ownXk o5 h5 6 v6;have h7:=(heap_setCell_same _ b 7 _ _ v7 h6).trans (by simp;rfl);have o7:=ownXk o6 h6 7 v7;have h8:=(heap_setCell_same _ b 8 _ _ v8 h7).trans (by simp;rfl);have o8:=ownXk o7 h7 8 v8;exact o8
theorem gGuess_hs (l:List UInt8) (hl:l.length≤2097152) (w:World) (kk:Int)
  (h0:(kk=2∧(wordG 32 l ((wordG 32 l 0).2+1)).1=[104,105,100,101])∨(kk=3∧(wordG 32 l ((wordG 32 l 0).2+1)).1=[115,104,111,119])) :
  Calls Tryz.prog 83 #[.string (bs l)] w fun e w'=>∃ a m cap,e=.returned (opVal ⟨(idG (wordG 32 l 0).1).1,(idG (wordG 32 l 0).1).2,kk,0,⟨#[]⟩,rngsG (restG l (wordG 32 l ((wordG 32 l 0).2+1)).2),0,0,false⟩ (.slice a m cap))∧Rng w' a m cap (rngsG (restG l (wordG 32 l ((wordG 32 l 0).2+1)).2))∧(∀ g off,a=some ⟨g,off,none⟩→w.heap.size≤g)∧Below w.heap.size w w':=by
 have hA:=gWord_G 32 l (by omega) 0 (by omega);have hle1:=wordG_le 32 l 0;obtain ⟨W1,hW1⟩:∃ p,wordG 32 l 0=p:=⟨_,rfl⟩;obtain ⟨a1,i1⟩:=W1;rw [hW1] at hA hle1 h0 ⊢;simp only at hA hle1 h0 ⊢;have hB:=gWord_G 32 l (by omega) (i1+1) (by omega);have hle2:=wordG_le 32 l (i1+1);obtain ⟨W2,hW2⟩:∃ p,wordG 32 l (i1+1)=p:=⟨_,rfl⟩;obtain ⟨a2,i2⟩:=W2;rw [hW2] at hB hle2 h0 ⊢;simp only at hB hle2 h0 ⊢;simp only [opVal];have HA:Hid (∀ w:World,Calls Tryz.prog 110 #[.string (bs l),.int .i64 0,.int .u8 32] w fun e w'=>e=.returned (.tuple #[.string (bs a1),.int .i64 (i1:Int)])∧w'=w):=hA;have HB:Hid (∀ w:World,Calls Tryz.prog 110 #[.string (bs l),.int .i64 ((i1:Int)+1),.int .u8 32] w fun e w'=>e=.returned (.tuple #[.string (bs a2),.int .i64 (i2:Int)])∧w'=w):=hB;have HP:Hid (∀ w:World,Calls Tryz.prog 111 #[.string (bs a1),.int .u8 46] w fun e w'=>e=.returned (.tuple #[.int .i64 (pairG 46 a1).1,.int .i64 (pairG 46 a1).2])∧w'=w):=fun w=>gPair_G 46 a1 (by omega) w
 have hsz:(bs l).size=l.length:=bs_size l;have k1:IntKind.i64.wrap ((i1:Int)+1)=(i1:Int)+1:=IntWalk.i64_in _ (by omega);have k2:IntKind.i64.wrap ((i2:Int)+1)=(i2:Int)+1:=IntWalk.i64_in _ (by omega);have hl2:(bs a2).toList=a2:=list_of a2;have t1:((bs a2).toList==[105,110,115])=false:=by rcases h0 with ⟨_,h0⟩|⟨_,h0⟩<;>(rw [hl2,h0];rfl)
 have T23:(kk=2∧((bs a2).toList==[104,105,100,101])=true∧((bs a2).toList==[115,104,111,119])=false)∨(kk=3∧((bs a2).toList==[104,105,100,101])=false∧((bs a2).toList==[115,104,111,119])=true):=by
  rcases h0 with ⟨e,h0⟩|⟨e,h0⟩
  ·exact .inl ⟨e,by rw [hl2,h0];rfl,by rw [hl2,h0];rfl⟩
  ·exact .inr ⟨e,by rw [hl2,h0];rfl,by rw [hl2,h0];rfl⟩
 have t4:((bs a2).toList==[111,110])=false:=by rcases h0 with ⟨_,h0⟩|⟨_,h0⟩<;>(rw [hl2,h0];rfl)
 have t5:((bs a2).toList==[111,102,102])=false:=by rcases h0 with ⟨_,h0⟩|⟨_,h0⟩<;>(rw [hl2,h0];rfl)
 have hl1:(bs a1).toList=a1:=list_of a1;obtain ⟨c,n,hcn⟩:∃ c n,idG a1=(c,n):=⟨_,_,rfl⟩;rw [hcn];dsimp only;have TID:(((bs a1).toList==[45])=true∧c=0∧n=0)∨(((bs a1).toList==[45])=false∧∀ w:World,Calls Tryz.prog 111 #[.string (bs a1),.int .u8 46] w fun e w'=>e=.returned (.tuple #[.int .i64 c,.int .i64 n])∧w'=w):=by
  unfold idG at hcn;by_cases hd:a1=[45]
  ·rw [if_pos hd] at hcn;cases hcn;exact .inl ⟨by rw [hl1,hd];rfl,rfl,rfl⟩
  ·rw [if_neg hd] at hcn;refine .inr ⟨by rw [hl1];exact nB hd,fun w=>?_⟩;have:=HP.out w;rw [hcn] at this;exact this
 clear hcn HP hl1;obtain ⟨V,hV⟩:∃ V,(w.alloc (Obj.cells #[.int .i64 0,.int .i64 0,.int .i64 0,.int .i64 0,.string ⟨#[]⟩,.slice none 0 0,.int .i64 0,.int .i64 0,.bool false] 44)).alloc (Obj.cells #[.int .i64 0,.int .i64 0,.int .i64 0,.int .i64 0,.string ⟨#[]⟩,.slice none 0 0,.int .i64 0,.int .i64 0,.bool false] 44)=V:=⟨_,rfl⟩;have hX:Below w.heap.size w V:=by rw [← hV];exact ((bE w.heap.size w).alloc (lR _) _).alloc (by simp) _
 have hx0:V.heap[w.heap.size]?=some (Obj.cells #[.int .i64 0,.int .i64 0,.int .i64 0,.int .i64 0,.string ⟨#[]⟩,.slice none 0 0,.int .i64 0,.int .i64 0,.bool false] 44):=by rw [← hV];exact (Below.heap_alloc _ _ _ (by simp)).trans (alloc_last _ _ _ rfl)
 have hx1:V.heap[w.heap.size+1]?=some (Obj.cells #[.int .i64 0,.int .i64 0,.int .i64 0,.int .i64 0,.string ⟨#[]⟩,.slice none 0 0,.int .i64 0,.int .i64 0,.bool false] 44):=by rw [← hV];exact alloc_last _ _ _ (by simp)
 have hrl:(restG l i2).length≤l.length:=by unfold restG;rw [List.length_drop];omega
 obtain ⟨r,hr⟩:∃ r,restG l i2=r:=⟨_,rfl⟩;rw [hr] at hrl ⊢;have HC:Hid (∀ (m:Nat) (w:World),m≤r.length→Calls Tryz.prog 110 #[.string (bs r),.int .i64 (m:Int),.int .u8 44] w fun e w'=>e=.returned (.tuple #[.string (bs (wordG 44 r m).1),.int .i64 ((wordG 44 r m).2:Int)])∧w'=w):=fun m w h=>gWord_G 44 r (by omega) m (by omega) w
 have HPR:Hid (∀ (x:List UInt8) (w:World),x.length≤2097152→Calls Tryz.prog 111 #[.string (bs x),.int .u8 45] w fun e w'=>e=.returned (.tuple #[.int .i64 (pairG 45 x).1,.int .i64 (pairG 45 x).2])∧w'=w):=fun x w h=>gPair_G 45 x (by omega) w
 have hrsz:(bs r).size=r.length:=bs_size r;obtain ⟨RR,hRR⟩:∃ RR,rngsG r=RR:=⟨_,rfl⟩;rw [hRR];have H0:Hid (rngsF (r.length+1) r 0=RR):=hRR;clear hA hB hW1 hW2 h0 hl2 hle1 hle2 hRR;by_cases hk:i2+1≤l.length
 ·have g1:(i2:Int)+1≤(l.length:Int):=by omega
  have eR:(bs l).extract (i2+1) l.length=bs r:=by
   rw [← hr,bs_ext];unfold restG;rw [List.take_of_length_le (by rw [List.length_drop];exact lR _)]
  clear hr;generalize bs a1=A1 at *;generalize bs a2=A2 at *;rcases TID with ⟨t0,hc,hn⟩|⟨t0,HPq⟩<;>rcases T23 with ⟨hkk,t2,t3⟩|⟨hkk,t2,t3⟩
  all_goals
    obtain ⟨⟨od0,od1,od2,od3,od4,od5,od6,od7,od8⟩,oz0,oz1,oz2,oz3,oz4,oz5,oz6,oz7,oz8⟩:=cf9 hx1
    first|(have hcc:=hc;clear hcc;obtain ⟨V1,hV1,V1Y,V1X,V1B⟩:∃ X,V=X∧X.heap[w.heap.size+1]?=some (.cells #[.int .i64 c,.int .i64 n,.int .i64 0,.int .i64 0,.string ⟨#[]⟩,.slice none 0 0,.int .i64 0,.int .i64 0,.bool false] 44)∧X.heap[w.heap.size]?=some (.cells #[.int .i64 0,.int .i64 0,.int .i64 0,.int .i64 0,.string ⟨#[]⟩,.slice none 0 0,.int .i64 0,.int .i64 0,.bool false] 44)∧Below w.heap.size w X:=⟨V,rfl,by rw [hc,hn];exact hx1,hx0,hX⟩;clear hc hn)|(obtain ⟨V1,hV1,V1Y,V1X,V1B⟩:=st9_01 hx0 hx1 hX (.int .i64 c) (.int .i64 n);have HP:Hid (∀ w:World,_):=HPq;clear HPq)
    obtain ⟨⟨qd0,qd1,qd2,qd3,qd4,qd5,qd6,qd7,qd8⟩,qz0,qz1,qz2,qz3,qz4,qz5,qz6,qz7,qz8⟩:=cf9 V1Y;obtain ⟨V2,hV2,V2Y,V2X,V2B⟩:=st9_2 V1X V1Y V1B (.int .i64 2);obtain ⟨⟨sd0,sd1,sd2,sd3,sd4,sd5,sd6,sd7,sd8⟩,sz0,sz1,sz2,sz3,sz4,sz5,sz6,sz7,sz8⟩:=cf9 V2Y
    first|(have hk2:kk=2:=hkk;clear hk2;obtain ⟨V3,hV3,V3Y,V3X,V3B⟩:∃ X,V2=X∧X.heap[w.heap.size+1]?=some (.cells #[.int .i64 c,.int .i64 n,.int .i64 kk,.int .i64 0,.string ⟨#[]⟩,.slice none 0 0,.int .i64 0,.int .i64 0,.bool false] 44)∧X.heap[w.heap.size]?=some (.cells #[.int .i64 0,.int .i64 0,.int .i64 0,.int .i64 0,.string ⟨#[]⟩,.slice none 0 0,.int .i64 0,.int .i64 0,.bool false] 44)∧Below w.heap.size w X:=⟨V2,rfl,by rw [hkk];exact V2Y,V2X,V2B⟩)|(obtain ⟨V3,hV3,V3Y,V3X,V3B⟩:∃ X,(V2.setCell ⟨w.heap.size+1,2,none⟩ (.int .i64 3))=X∧X.heap[w.heap.size+1]?=some (.cells #[.int .i64 c,.int .i64 n,.int .i64 kk,.int .i64 0,.string ⟨#[]⟩,.slice none 0 0,.int .i64 0,.int .i64 0,.bool false] 44)∧X.heap[w.heap.size]?=some (.cells #[.int .i64 0,.int .i64 0,.int .i64 0,.int .i64 0,.string ⟨#[]⟩,.slice none 0 0,.int .i64 0,.int .i64 0,.bool false] 44)∧Below w.heap.size w X:=by rw [hkk];exact st9_2 V2X V2Y V2B (.int .i64 3))
    clear hkk;obtain ⟨⟨ud0,ud1,ud2,ud3,ud4,ud5,ud6,ud7,ud8⟩,uz0,uz1,uz2,uz3,uz4,uz5,uz6,uz7,uz8⟩:=cf9 V3Y;have hsL:w.heap.size+2≤V3.heap.size:=(gA V3Y);go_enter Tryz.func83,Tryz.ntmps83;go_wp2_with fail
    (try simp only [hV])
    refine (HA.out _).mono ?_;rintro e w3 ⟨rfl,hw⟩;obtain rfl:=hw.symm;clear hw;go_wp2_with fail;refine (HB.out _).mono ?_;rintro e w3 ⟨rfl,hw⟩;obtain rfl:=hw.symm;clear hw;go_wp2_with fail
    (try (refine (HP.out _).mono ?_;rintro e w3 ⟨rfl,hw⟩;obtain rfl:=hw.symm;clear hw;go_wp2_with fail))
    (try simp only [hV1])
    (try go_wp2_with fail)
    (try simp only [hV2])
    (try go_wp2_with fail)
    (try simp only [hV3])
    (try go_wp2_with fail)
    go_loopw [16,17,18,19,20] (fun vm _ _ _ _ W=>∃ (m f:Nat) (acc:List (Int×Int)) (v:Value),vm=.int .i64 (m:Int)∧m≤r.length+1∧r.length+1≤m+f∧acc.length≤m∧OwnF rngV 2 76 W (w.heap.size+2) v acc∧W.heap[w.heap.size+1]?=some (.cells #[.int .i64 c,.int .i64 n,.int .i64 kk,.int .i64 0,.string ⟨#[]⟩,v,.int .i64 0,.int .i64 0,.bool false] 44)∧W.heap[w.heap.size]?=some (.cells #[.int .i64 0,.int .i64 0,.int .i64 0,.int .i64 0,.string ⟨#[]⟩,.slice none 0 0,.int .i64 0,.int .i64 0,.bool false] 44)∧Below w.heap.size w W∧w.heap.size+2≤W.heap.size∧Hid (acc++rngsF f r m=RR)) (fun vm _ _ _ _ _=>r.length+1-(RowKit.intOf vm).toNat)
    case atStart=>exact ⟨0,r.length+1,[],_,rfl,by omega,by omega,lR _,ownF_nil _ _,V3Y,V3X,V3B,hsL,H0⟩
    case round =>
     obtain ⟨m,f,acc,v,rfl,hm1,hf,hal,ho,hY,hXx,hB,hsW,hI⟩:=hrel;obtain ⟨av,cv,rfl⟩:=ho.shape;obtain ⟨⟨ad0,ad1,ad2,ad3,ad4,ad5,ad6,ad7,ad8⟩,az0,az1,az2,az3,az4,az5,az6,az7,az8⟩:=cf9 hY;by_cases hp:m≤r.length
     ·have g2:(m:Int)≤(r.length:Int):=by omega
      obtain ⟨f,rfl⟩:∃ f',f=f'+1:=⟨f-1,by omega⟩;have hge:=wordG_ge (c:=44) hp;have hwl:=wordG_le 44 r m;have HC1:Hid (∀ w:World,Calls Tryz.prog 110 #[.string (bs r),.int .i64 (m:Int),.int .u8 44] w fun e w'=>e=.returned (.tuple #[.string (bs (wordG 44 r m).1),.int .i64 ((wordG 44 r m).2:Int)])∧w'=w):=fun w=>HC.out m w hp
      have HP1:Hid (∀ w:World,Calls Tryz.prog 111 #[.string (bs (wordG 44 r m).1),.int .u8 45] w fun e w'=>e=.returned (.tuple #[.int .i64 (pairG 45 (wordG 44 r m).1).1,.int .i64 (pairG 45 (wordG 44 r m).1).2])∧w'=w):=fun w=>HPR.out _ w (by omega)
      have HI2:Hid ((acc++[pairG 45 (wordG 44 r m).1])++rngsF f r ((wordG 44 r m).2+1)=RR):=by
       have:=hI.out;rw [rngsF,if_neg (by omega)] at this;show _=_;rw [← this];simp
      clear hI;generalize pairG 45 (wordG 44 r m).1=pr at *;generalize bs (wordG 44 r m).1=wd at *;generalize (wordG 44 r m).2=tz at *;obtain ⟨xlo,xhi⟩:=pr;simp only at HP1;have k5:IntKind.i64.wrap ((tz:Int)+1)=(tz:Int)+1:=IntWalk.i64_in _ (by omega);obtain ⟨g5,cap5,w6,hr,ho6,hb6,_,_⟩:=appendF_one kindRo layRo ho hsW (xlo,xhi) #[.int .i64 xlo,.int .i64 xhi] rfl 76 (by omega) (by omega) 42;have Y6:=(hb6.block (w.heap.size+1) (by omega)).trans hY;have X6:=(hb6.block w.heap.size (by omega)).trans hXx;have B6:=hB.trans (hb6.mono (by omega));have hs6:w.heap.size+2≤w6.heap.size:=Nat.le_trans hsW hb6.size;obtain ⟨⟨bd0,bd1,bd2,bd3,bd4,bd5,bd6,bd7,bd8⟩,bz0,bz1,bz2,bz3,bz4,bz5,bz6,bz7,bz8⟩:=cf9 Y6;have o7:=ownXk ho6 Y6 5 (.slice (some ⟨g5,0,none⟩) (acc.length+1) cap5);obtain ⟨V7,hV7,V7Y,V7X,V7B⟩:=st9_5 X6 Y6 B6 (.slice (some ⟨g5,0,none⟩) (acc.length+1) cap5);rw [hV7] at o7;have hs7:w.heap.size+2≤V7.heap.size:=(gA V7Y);have HEND:Hid (∃ (m f:Nat) (acc':List (Int×Int)) (v:Value),Value.int .i64 ((tz:Int)+1)=.int .i64 (m:Int)∧m≤r.length+1∧r.length+1≤m+f∧acc'.length≤m∧OwnF rngV 2 76 V7 (w.heap.size+2) v acc'∧V7.heap[w.heap.size+1]?=some (.cells #[.int .i64 c,.int .i64 n,.int .i64 kk,.int .i64 0,.string ⟨#[]⟩,v,.int .i64 0,.int .i64 0,.bool false] 44)∧V7.heap[w.heap.size]?=some (.cells #[.int .i64 0,.int .i64 0,.int .i64 0,.int .i64 0,.string ⟨#[]⟩,.slice none 0 0,.int .i64 0,.int .i64 0,.bool false] 44)∧Below w.heap.size w V7∧w.heap.size+2≤V7.heap.size∧Hid (acc'++rngsF f r m=RR)):=⟨tz+1,f,acc++[(xlo,xhi)],_,rfl,by omega,by omega,by rw [List.length_append,List.length_singleton];omega,o7,V7Y,V7X,V7B,hs7,HI2⟩;clear ho ho6 o7 hb6 hY hXx Y6 X6;go_wp2_with fail;refine (HC1.out _).mono ?_;rintro e w3 ⟨rfl,hw⟩;obtain rfl:=hw.symm;clear hw;go_wp2_with fail;refine (HP1.out _).mono ?_;rintro e w3 ⟨rfl,hw⟩;obtain rfl:=hw.symm;clear hw;go_wp2_with (at_builtin;refine wpList_append_hr rfl _ _ 42 rfl _ _ rfl rfl hr ?_)
      (try simp only [hV7])
      (try go_wp2_with fail)
      exact ⟨HEND.out,by simp only [RowKit.intOf];omega⟩
     ·have g2:¬ (m:Int)≤(r.length:Int):=by omega
      have HR1:acc=RR:=by
       have:=hI.out;cases f with
       | zero=>rw [rngsF,List.append_nil] at this;exact this
       | succ f=>rw [rngsF,if_pos (by omega),List.append_nil] at this;exact this
      have o9:=own9k ho hXx (.int .i64 c) (.int .i64 n) (.int .i64 kk) (.int .i64 0) (.string ⟨#[]⟩) (.slice av acc.length cv) (.int .i64 0) (.int .i64 0) (.bool false);obtain ⟨⟨pd0,pd1,pd2,pd3,pd4,pd5,pd6,pd7,pd8⟩,pz0,pz1,pz2,pz3,pz4,pz5,pz6,pz7,pz8⟩:=cf9 hXx;have hq8:=q9 hB (b:=w.heap.size) (lR _) (.int .i64 c) (.int .i64 n) (.int .i64 kk) (.int .i64 0) (.string ⟨#[]⟩) (.slice av acc.length cv) (.int .i64 0) (.int .i64 0) (.bool false);have hx9:=set9k hXx (.int .i64 c) (.int .i64 n) (.int .i64 kk) (.int .i64 0) (.string ⟨#[]⟩) (.slice av acc.length cv) (.int .i64 0) (.int .i64 0) (.bool false);obtain ⟨w9,hw9⟩:=exW hx9;rw [hw9] at hx9 hq8;obtain ⟨r0,r1,r2,r3,r4,r5,r6,r7,r8⟩:=cl9 hx9;rw [hw9] at o9;have HF:Hid (∃ a m cap,Ending.returned (.agg #[.int .i64 c,.int .i64 n,.int .i64 kk,.int .i64 0,.string ⟨#[]⟩,.slice av acc.length cv,.int .i64 0,.int .i64 0,.bool false])=Ending.returned (.agg #[.int .i64 c,.int .i64 n,.int .i64 kk,.int .i64 0,.string ⟨#[]⟩,.slice a m cap,.int .i64 0,.int .i64 0,.bool false])∧Rng w9 a m cap RR∧(∀ g off,a=some ⟨g,off,none⟩→w.heap.size≤g)∧Below w.heap.size w w9):=⟨av,acc.length,cv,rfl,HR1▸rng_of_rw (o9.rw_ layRo),fun g off ha=>by have:=ownF_atk o9 g off ha;omega,hq8⟩;clear o9 ho HR1 hI;go_wp2_with fail
      all_goals (try rw [hw9])
      all_goals refine bodyPost_ret (v:=.agg #[.int .i64 c,.int .i64 n,.int .i64 kk,.int .i64 0,.string ⟨#[]⟩,.slice av acc.length cv,.int .i64 0,.int .i64 0,.bool false]) (by simp [results,Tryz.results83,go_sem,r0,r1,r2,r3,r4,r5,r6,r7,r8]) rfl HF.out
 ·have g1:¬ (i2:Int)+1≤(l.length:Int):=by omega
  have hr0:r=[]:=by rw [← hr];exact List.drop_eq_nil_of_le (by omega)
  subst hr0;have eRR:RR=[(-1,-1)]:=by rw [← H0.out];rfl
  have HC1:Hid (∀ w:World,Calls Tryz.prog 110 #[.string ⟨#[]⟩,.int .i64 0,.int .u8 44] w fun e w'=>e=.returned (.tuple #[.string ⟨#[]⟩,.int .i64 0])∧w'=w):=fun w=>HC.out 0 w (lR _)
  have HP1:Hid (∀ w:World,Calls Tryz.prog 111 #[.string ⟨#[]⟩,.int .u8 45] w fun e w'=>e=.returned (.tuple #[.int .i64 (-1),.int .i64 (-1)])∧w'=w):=fun w=>HPR.out [] w (by simp)
  subst eRR;clear hr HC HPR H0 hrsz hrl;generalize bs a1=A1 at *;generalize bs a2=A2 at *;rcases TID with ⟨t0,hc,hn⟩|⟨t0,HPq⟩<;>rcases T23 with ⟨hkk,t2,t3⟩|⟨hkk,t2,t3⟩
  all_goals
    obtain ⟨⟨od0,od1,od2,od3,od4,od5,od6,od7,od8⟩,oz0,oz1,oz2,oz3,oz4,oz5,oz6,oz7,oz8⟩:=cf9 hx1
    first|(have hcc:=hc;clear hcc;obtain ⟨V1,hV1,V1Y,V1X,V1B⟩:∃ X,V=X∧X.heap[w.heap.size+1]?=some (.cells #[.int .i64 c,.int .i64 n,.int .i64 0,.int .i64 0,.string ⟨#[]⟩,.slice none 0 0,.int .i64 0,.int .i64 0,.bool false] 44)∧X.heap[w.heap.size]?=some (.cells #[.int .i64 0,.int .i64 0,.int .i64 0,.int .i64 0,.string ⟨#[]⟩,.slice none 0 0,.int .i64 0,.int .i64 0,.bool false] 44)∧Below w.heap.size w X:=⟨V,rfl,by rw [hc,hn];exact hx1,hx0,hX⟩;clear hc hn)|(obtain ⟨V1,hV1,V1Y,V1X,V1B⟩:=st9_01 hx0 hx1 hX (.int .i64 c) (.int .i64 n);have HP:Hid (∀ w:World,_):=HPq;clear HPq)
    obtain ⟨⟨qd0,qd1,qd2,qd3,qd4,qd5,qd6,qd7,qd8⟩,qz0,qz1,qz2,qz3,qz4,qz5,qz6,qz7,qz8⟩:=cf9 V1Y;obtain ⟨V2,hV2,V2Y,V2X,V2B⟩:=st9_2 V1X V1Y V1B (.int .i64 2);obtain ⟨⟨sd0,sd1,sd2,sd3,sd4,sd5,sd6,sd7,sd8⟩,sz0,sz1,sz2,sz3,sz4,sz5,sz6,sz7,sz8⟩:=cf9 V2Y
    first|(have hk2:kk=2:=hkk;clear hk2;obtain ⟨V3,hV3,V3Y,V3X,V3B⟩:∃ X,V2=X∧X.heap[w.heap.size+1]?=some (.cells #[.int .i64 c,.int .i64 n,.int .i64 kk,.int .i64 0,.string ⟨#[]⟩,.slice none 0 0,.int .i64 0,.int .i64 0,.bool false] 44)∧X.heap[w.heap.size]?=some (.cells #[.int .i64 0,.int .i64 0,.int .i64 0,.int .i64 0,.string ⟨#[]⟩,.slice none 0 0,.int .i64 0,.int .i64 0,.bool false] 44)∧Below w.heap.size w X:=⟨V2,rfl,by rw [hkk];exact V2Y,V2X,V2B⟩)|(obtain ⟨V3,hV3,V3Y,V3X,V3B⟩:∃ X,(V2.setCell ⟨w.heap.size+1,2,none⟩ (.int .i64 3))=X∧X.heap[w.heap.size+1]?=some (.cells #[.int .i64 c,.int .i64 n,.int .i64 kk,.int .i64 0,.string ⟨#[]⟩,.slice none 0 0,.int .i64 0,.int .i64 0,.bool false] 44)∧X.heap[w.heap.size]?=some (.cells #[.int .i64 0,.int .i64 0,.int .i64 0,.int .i64 0,.string ⟨#[]⟩,.slice none 0 0,.int .i64 0,.int .i64 0,.bool false] 44)∧Below w.heap.size w X:=by rw [hkk];exact st9_2 V2X V2Y V2B (.int .i64 3))
    clear hkk;obtain ⟨⟨ud0,ud1,ud2,ud3,ud4,ud5,ud6,ud7,ud8⟩,uz0,uz1,uz2,uz3,uz4,uz5,uz6,uz7,uz8⟩:=cf9 V3Y;have hsL:w.heap.size+2≤V3.heap.size:=(gA V3Y);go_enter Tryz.func83,Tryz.ntmps83;go_wp2_with fail
    (try simp only [hV])
    refine (HA.out _).mono ?_;rintro e w3 ⟨rfl,hw⟩;obtain rfl:=hw.symm;clear hw;go_wp2_with fail;refine (HB.out _).mono ?_;rintro e w3 ⟨rfl,hw⟩;obtain rfl:=hw.symm;clear hw;go_wp2_with fail
    (try (refine (HP.out _).mono ?_;rintro e w3 ⟨rfl,hw⟩;obtain rfl:=hw.symm;clear hw;go_wp2_with fail))
    (try simp only [hV1])
    (try go_wp2_with fail)
    (try simp only [hV2])
    (try go_wp2_with fail)
    (try simp only [hV3])
    (try go_wp2_with fail)
    go_loopw [16,17,18,19,20] (fun vm _ _ _ _ W=>LoopE 44 76 w (fun v=>#[.int .i64 c,.int .i64 n,.int .i64 kk,.int .i64 0,.string ⟨#[]⟩,v,.int .i64 0,.int .i64 0,.bool false]) #[.int .i64 0,.int .i64 0,.int .i64 0,.int .i64 0,.string ⟨#[]⟩,.slice none 0 0,.int .i64 0,.int .i64 0,.bool false] vm W) (fun vm _ _ _ _ _=>1-(RowKit.intOf vm).toNat)
    case atStart=>exact ⟨.inl ⟨rfl,V3Y⟩,V3X,V3B,hsL⟩
    case round =>
     obtain ⟨hrel,hXx,hB,hsW⟩:=hrel;rcases hrel with ⟨rfl,hY0⟩|⟨rfl,g5,cap5,ho,hY0⟩
     ·have hY:wr.heap[w.heap.size+1]?=some (.cells #[.int .i64 c,.int .i64 n,.int .i64 kk,.int .i64 0,.string ⟨#[]⟩,.slice none 0 0,.int .i64 0,.int .i64 0,.bool false] 44):=hY0;clear hY0;obtain ⟨⟨ad0,ad1,ad2,ad3,ad4,ad5,ad6,ad7,ad8⟩,az0,az1,az2,az3,az4,az5,az6,az7,az8⟩:=cf9 hY;obtain ⟨g5,cap5,w6,hr,ho6,hb6,_,_⟩:=appendF_one kindRo layRo (ownF_nil wr (w.heap.size+2)) hsW (-1,-1) #[.int .i64 (-1),.int .i64 (-1)] rfl 76 (by simp) (by simp) 42;simp only [List.length_nil,Nat.zero_add,List.nil_append] at hr ho6;have Y6:=(hb6.block (w.heap.size+1) (by omega)).trans hY;have X6:=(hb6.block w.heap.size (by omega)).trans hXx;have B6:=hB.trans (hb6.mono (by omega));have hs6:w.heap.size+2≤w6.heap.size:=Nat.le_trans hsW hb6.size;obtain ⟨⟨bd0,bd1,bd2,bd3,bd4,bd5,bd6,bd7,bd8⟩,bz0,bz1,bz2,bz3,bz4,bz5,bz6,bz7,bz8⟩:=cf9 Y6;have o7:=ownXk ho6 Y6 5 (.slice (some ⟨g5,0,none⟩) 1 cap5);obtain ⟨V7,hV7,V7Y,V7X,V7B⟩:=st9_5 X6 Y6 B6 (.slice (some ⟨g5,0,none⟩) 1 cap5);rw [hV7] at o7;have hs7:w.heap.size+2≤V7.heap.size:=(gA V7Y);have HEND:Hid (LoopE 44 76 w (fun v=>#[.int .i64 c,.int .i64 n,.int .i64 kk,.int .i64 0,.string ⟨#[]⟩,v,.int .i64 0,.int .i64 0,.bool false]) #[.int .i64 0,.int .i64 0,.int .i64 0,.int .i64 0,.string ⟨#[]⟩,.slice none 0 0,.int .i64 0,.int .i64 0,.bool false] (.int .i64 1) V7):=⟨.inr ⟨rfl,g5,cap5,o7,V7Y⟩,V7X,V7B,hs7⟩;clear ho6 o7 hb6 hY hXx Y6 X6;go_wp2_with fail;refine (HC1.out _).mono ?_;rintro e w3 ⟨rfl,hw⟩;obtain rfl:=hw.symm;clear hw;go_wp2_with fail;refine (HP1.out _).mono ?_;rintro e w3 ⟨rfl,hw⟩;obtain rfl:=hw.symm;clear hw;go_wp2_with (at_builtin;refine wpList_append_hr rfl _ _ 42 rfl _ _ rfl rfl hr ?_)
      (try simp only [hV7])
      (try go_wp2_with fail)
      exact ⟨HEND.out,by simp [RowKit.intOf]⟩
     ·have hY:wr.heap[w.heap.size+1]?=some (.cells #[.int .i64 c,.int .i64 n,.int .i64 kk,.int .i64 0,.string ⟨#[]⟩,.slice (some ⟨g5,0,none⟩) 1 cap5,.int .i64 0,.int .i64 0,.bool false] 44):=hY0;clear hY0;obtain ⟨⟨ad0,ad1,ad2,ad3,ad4,ad5,ad6,ad7,ad8⟩,az0,az1,az2,az3,az4,az5,az6,az7,az8⟩:=cf9 hY;have o9:=own9k ho hXx (.int .i64 c) (.int .i64 n) (.int .i64 kk) (.int .i64 0) (.string ⟨#[]⟩) (.slice (some ⟨g5,0,none⟩) 1 cap5) (.int .i64 0) (.int .i64 0) (.bool false);obtain ⟨⟨pd0,pd1,pd2,pd3,pd4,pd5,pd6,pd7,pd8⟩,pz0,pz1,pz2,pz3,pz4,pz5,pz6,pz7,pz8⟩:=cf9 hXx;have hq8:=q9 hB (b:=w.heap.size) (lR _) (.int .i64 c) (.int .i64 n) (.int .i64 kk) (.int .i64 0) (.string ⟨#[]⟩) (.slice (some ⟨g5,0,none⟩) 1 cap5) (.int .i64 0) (.int .i64 0) (.bool false);have hx9:=set9k hXx (.int .i64 c) (.int .i64 n) (.int .i64 kk) (.int .i64 0) (.string ⟨#[]⟩) (.slice (some ⟨g5,0,none⟩) 1 cap5) (.int .i64 0) (.int .i64 0) (.bool false);obtain ⟨w9,hw9⟩:=exW hx9;rw [hw9] at hx9 hq8;obtain ⟨r0,r1,r2,r3,r4,r5,r6,r7,r8⟩:=cl9 hx9;rw [hw9] at o9;have HF:Hid (∃ a m cap,Ending.returned (.agg #[.int .i64 c,.int .i64 n,.int .i64 kk,.int .i64 0,.string ⟨#[]⟩,.slice (some ⟨g5,0,none⟩) 1 cap5,.int .i64 0,.int .i64 0,.bool false])=Ending.returned (.agg #[.int .i64 c,.int .i64 n,.int .i64 kk,.int .i64 0,.string ⟨#[]⟩,.slice a m cap,.int .i64 0,.int .i64 0,.bool false])∧Rng w9 a m cap [(-1,-1)]∧(∀ g off,a=some ⟨g,off,none⟩→w.heap.size≤g)∧Below w.heap.size w w9):=⟨_,1,cap5,rfl,rng_of_rw (o9.rw_ layRo),fun g off ha=>by have:=ownF_atk o9 g off ha;omega,hq8⟩;clear o9 ho;go_wp2_with fail
      all_goals (try rw [hw9])
      all_goals refine bodyPost_ret (v:=.agg #[.int .i64 c,.int .i64 n,.int .i64 kk,.int .i64 0,.string ⟨#[]⟩,.slice (some ⟨g5,0,none⟩) 1 cap5,.int .i64 0,.int .i64 0,.bool false]) (by simp [results,Tryz.results83,go_sem,r0,r1,r2,r3,r4,r5,r6,r7,r8]) rfl HF.out
theorem gGuess_hide (l:List UInt8) (hl:l.length≤2097152) (w:World) (h0:(wordG 32 l ((wordG 32 l 0).2+1)).1=[104,105,100,101]) :
  Calls Tryz.prog 83 #[.string (bs l)] w fun e w'=>∃ a m cap,e=.returned (opVal ⟨(idG (wordG 32 l 0).1).1,(idG (wordG 32 l 0).1).2,2,0,⟨#[]⟩,rngsG (restG l (wordG 32 l ((wordG 32 l 0).2+1)).2),0,0,false⟩ (.slice a m cap))∧Rng w' a m cap (rngsG (restG l (wordG 32 l ((wordG 32 l 0).2+1)).2))∧(∀ g off,a=some ⟨g,off,none⟩→w.heap.size≤g)∧Below w.heap.size w w' :=
 gGuess_hs l hl w 2 (.inl ⟨rfl,h0⟩)
theorem gGuess_show (l:List UInt8) (hl:l.length≤2097152) (w:World) (h0:(wordG 32 l ((wordG 32 l 0).2+1)).1=[115,104,111,119]) :
  Calls Tryz.prog 83 #[.string (bs l)] w fun e w'=>∃ a m cap,e=.returned (opVal ⟨(idG (wordG 32 l 0).1).1,(idG (wordG 32 l 0).1).2,3,0,⟨#[]⟩,rngsG (restG l (wordG 32 l ((wordG 32 l 0).2+1)).2),0,0,false⟩ (.slice a m cap))∧Rng w' a m cap (rngsG (restG l (wordG 32 l ((wordG 32 l 0).2+1)).2))∧(∀ g off,a=some ⟨g,off,none⟩→w.heap.size≤g)∧Below w.heap.size w w' :=
 gGuess_hs l hl w 3 (.inr ⟨rfl,h0⟩)
end Go.Proofs.YtijpfbcippijoaaGreatDoor
