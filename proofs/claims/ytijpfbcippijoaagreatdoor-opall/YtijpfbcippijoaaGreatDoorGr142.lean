import Derived.Test.YtijpfbcippijoaaGreatDoorAl
import Derived.Test.YtijpfbcippijoaaGreatDoorGr119
import Derived.Test.YtijpfbcippijoaaGreatDoorGr108
import Derived.Shelf.Strconv.Clone
import Derived.Test.YtijpfbcippijoaaGreatDoorProg
import Derived.Test.YtijpfbcippijoaaGreatDoorGr125
set_option maxHeartbeats 4000000
set_option maxRecDepth 100000
namespace Go.Proofs.YtijpfbcippijoaaGreatDoor
open Go.RowKit Go.Lib Sp
theorem gCheck_any {o:OpV} {total:Int} {w:World} {a:Option Addr} {m cap:Nat} (h:Rng w a m cap o.l) (hs:o.s.size≤2097152) :
  Calls Tryz.prog 27 #[opVal o (.slice a m cap),.int .i64 total] w fun e w'=>e=.returned (.int .i64 (opCheck o total))∧Below w.heap.size w w':=by
 obtain ⟨c,n,k,p,s,l,tc,tn,on⟩:=o;simp only at h hs;have hlen:=h.len;have hroom:=h.room;have hmb:m≤9223372036854775807:=by simp only [maxLen] at hroom;omega
 have hw2:Below w.heap.size w (w.alloc (Obj.cells #[.int .i64 c,.int .i64 n,.int .i64 k,.int .i64 p,.string s,.slice a m cap,.int .i64 tc,.int .i64 tn,.bool on] 44)):=(bE w.heap.size w).alloc (lR _) _;obtain ⟨r,hr⟩:∃ r,opCheck ⟨c,n,k,p,s,l,tc,tn,on⟩ total=r:=⟨_,rfl⟩;rw [hr];simp only [opCheck] at hr;by_cases hT0:total<0
 ·rw [if_pos (.inl hT0)] at hr;subst hr;simp only [opVal];go_enter Tryz.func27,Tryz.ntmps27;go_wp2_with fail;go_ret;exact ⟨rfl,hw2⟩
 by_cases hT1:1048576<total
 ·rw [if_pos (.inr hT1)] at hr;subst hr;simp only [opVal];go_enter Tryz.func27,Tryz.ntmps27;go_wp2_with fail;go_ret;exact ⟨rfl,hw2⟩
 rw [if_neg (by omega)] at hr;have g0:0≤total:=by omega
 have g1:total≤1048576:=by omega
 clear hT0 hT1;by_cases hK0:k<1
 ·rw [if_pos (.inl hK0)] at hr;subst hr;simp only [opVal];go_enter Tryz.func27,Tryz.ntmps27;go_wp2_with fail;go_ret;exact ⟨rfl,hw2⟩
 by_cases hK1:4<k
 ·rw [if_pos (.inr hK1)] at hr;subst hr;simp only [opVal];go_enter Tryz.func27,Tryz.ntmps27;go_wp2_with fail;go_ret;exact ⟨rfl,hw2⟩
 rw [if_neg (by omega)] at hr;have k0:1≤k:=by omega
 have k1:k≤4:=by omega
 clear hK0 hK1;obtain ⟨b,hb⟩:∃ b,isIdP c n=b:=⟨_,rfl⟩;obtain ⟨nn,hnn⟩:∃ nn,decide (c=0∧n=0)=nn:=⟨_,rfl⟩;obtain ⟨ex,hex⟩:∃ ex,extra ⟨c,n,k,p,s,l,tc,tn,on⟩=ex:=⟨_,rfl⟩;obtain ⟨tb,htb⟩:∃ tb,isIdP tc tn=tb:=⟨_,rfl⟩;obtain ⟨x,z,hc⟩:∃ x z,checkL l=(x,z):=⟨_,_,rfl⟩;rw [hex] at hr;have HD:Hid (∀ w':World,Calls Tryz.prog 61 #[.agg #[.int .i64 c,.int .i64 n]] w' fun e w''=>e=.returned (.bool b)∧Below w'.heap.size w' w''):=fun w'=>hb▸gIsID_any c n w'
 have HT:Hid (∀ w':World,Calls Tryz.prog 61 #[.agg #[.int .i64 tc,.int .i64 tn]] w' fun e w''=>e=.returned (.bool tb)∧Below w'.heap.size w' w''):=fun w'=>htb▸gIsID_any tc tn w'
 have HN:Hid (∀ w':World,Calls Tryz.prog 62 #[.agg #[.int .i64 c,.int .i64 n]] w' fun e w''=>e=.returned (.bool nn)∧Below w'.heap.size w' w''):=fun w'=>hnn▸gNone_any c n w'
 have HX:Hid (∀ w':World,Calls Tryz.prog 63 #[.agg #[.int .i64 c,.int .i64 n,.int .i64 k,.int .i64 p,.string s,.slice a m cap,.int .i64 tc,.int .i64 tn,.bool on]] w' fun e w''=>e=.returned (.bool ex)∧Below w'.heap.size w' w''):=fun w'=>hex▸gExtra_any (o:=⟨c,n,k,p,s,l,tc,tn,on⟩) (w:=w') hlen
 have HIN:Hid (∀ w':World,Calls Tryz.prog 64 #[.agg #[.int .i64 c,.int .i64 n,.int .i64 k,.int .i64 p,.string s,.slice a m cap,.int .i64 tc,.int .i64 tn,.bool on],.int .i64 total] w' fun e w''=>e=.returned (.int .i64 (insP ⟨c,n,k,p,s,l,tc,tn,on⟩ total))∧Below w'.heap.size w' w''):=fun w'=>gInsert_any (o:=⟨c,n,k,p,s,l,tc,tn,on⟩) g0 g1 hs w'
 have HRC:Hid (∀ w':World,Below w.heap.size w w'→Calls Tryz.prog 65 #[.slice a m cap] w' fun e w''=>e=.returned (.tuple #[.int .i64 x,.int .i64 z])∧Below w'.heap.size w' w''):=fun w' hbb=>by have q:=Sp.refCheck_any (h.below hbb);rw [hc] at q;exact q
 have CELL:Hid (∀ w':World,Below (w.alloc (Obj.cells #[.int .i64 c,.int .i64 n,.int .i64 k,.int .i64 p,.string s,.slice a m cap,.int .i64 tc,.int .i64 tn,.bool on] 44)).heap.size (w.alloc (Obj.cells #[.int .i64 c,.int .i64 n,.int .i64 k,.int .i64 p,.string s,.slice a m cap,.int .i64 tc,.int .i64 tn,.bool on] 44)) w'→w'.cell? ⟨w.heap.size,0,none⟩=some (.int .i64 c)∧w'.cell? ⟨w.heap.size,1,none⟩=some (.int .i64 n)∧w'.cell? ⟨w.heap.size,2,none⟩=some (.int .i64 k)∧w'.cell? ⟨w.heap.size,3,none⟩=some (.int .i64 p)∧w'.cell? ⟨w.heap.size,4,none⟩=some (.string s)∧w'.cell? ⟨w.heap.size,5,none⟩=some (.slice a m cap)∧w'.cell? ⟨w.heap.size,6,none⟩=some (.int .i64 tc)∧w'.cell? ⟨w.heap.size,7,none⟩=some (.int .i64 tn)∧w'.cell? ⟨w.heap.size,8,none⟩=some (.bool on)):=fun w' hbb=>⟨(hbb.cell (p:=⟨w.heap.size,0,none⟩) (by simp)).trans (cM ..),(hbb.cell (p:=⟨w.heap.size,1,none⟩) (by simp)).trans (cM ..),(hbb.cell (p:=⟨w.heap.size,2,none⟩) (by simp)).trans (cM ..),(hbb.cell (p:=⟨w.heap.size,3,none⟩) (by simp)).trans (cM ..),(hbb.cell (p:=⟨w.heap.size,4,none⟩) (by simp)).trans (cM ..),(hbb.cell (p:=⟨w.heap.size,5,none⟩) (by simp)).trans (cM ..),(hbb.cell (p:=⟨w.heap.size,6,none⟩) (by simp)).trans (cM ..),(hbb.cell (p:=⟨w.heap.size,7,none⟩) (by simp)).trans (cM ..),(hbb.cell (p:=⟨w.heap.size,8,none⟩) (by simp)).trans (cM ..)⟩
 have HS0:Hid (tgtP ⟨c,n,k,p,s,l,tc,tn,on⟩=if tb=false∨(tc=c∧tn=n) then 63 else 0):=by show tgtP ⟨c,n,k,p,s,l,tc,tn,on⟩=_;simp only [tgtP,htb]
 have HS1:Hid (rngP ⟨c,n,k,p,s,l,tc,tn,on⟩ total=if l=[] then 43 else if z≠0 then z else if total<lastHi l then 12 else 0):=by show rngP ⟨c,n,k,p,s,l,tc,tn,on⟩ total=_;simp only [rngP,hc]
 have HQ:Hid (b=true∨(b=false∧nn=true)∨(b=false∧nn=false)):=by show b=true∨_;cases b<;>cases nn<;>simp
 have HR:Hid ((if nn=false∧b=false then 41 else if ex=true then 42 else if k=1 then insP ⟨c,n,k,p,s,l,tc,tn,on⟩ total else if k=4 then tgtP ⟨c,n,k,p,s,l,tc,tn,on⟩ else rngP ⟨c,n,k,p,s,l,tc,tn,on⟩ total)=r):=by
  show _=r;rw [← hr,← hnn,hb];simp only [decide_eq_false_iff_not]
 clear hr hb hnn hex htb hc hs;have HRN:Hid (Rng w a m cap l):=h;clear h;simp only [opVal];go_enter Tryz.func27,Tryz.ntmps27;go_wp2_with fail;refine (HD.out _).mono ?_;rintro e w1 ⟨rfl,hb1⟩;have hW1:=hb1;have hB1:=hw2.trans (hW1.mono hw2.size);obtain ⟨d0,d1,d2,d3,d4,d5,d6,d7,d8⟩:=CELL.out _ hW1;clear hb1 HD;go_wp2_with fail;refine (HN.out _).mono ?_;rintro e w2 ⟨rfl,hb2⟩;have hW2:=hW1.trans (hb2.mono hW1.size);have hB2:=hw2.trans (hW2.mono hw2.size);clear d0 d1 d2 d3 d4 d5 d6 d7 d8 hb2 HN hW1 hB1;obtain ⟨d0,d1,d2,d3,d4,d5,d6,d7,d8⟩:=CELL.out _ hW2;rcases HQ.out with e0|⟨e0,e1⟩|⟨e0,e1⟩
 ·subst e0;rw [if_neg (by simp)] at HR;clear HQ;go_wp2_with fail;refine (HX.out _).mono ?_;rintro e w3 ⟨rfl,hb3⟩;have hW3:=hW2.trans (hb3.mono hW2.size);have hB3:=hw2.trans (hW3.mono hw2.size);clear d0 d1 d2 d3 d4 d5 d6 d7 d8 hb3 HX hW2 hB2;obtain ⟨d0,d1,d2,d3,d4,d5,d6,d7,d8⟩:=CELL.out _ hW3;cases ex with
  | true =>
   have hr:=HR.out;rw [if_pos rfl] at hr;subst hr;clear HR;go_wp2_with fail;go_ret;exact ⟨rfl,hB3⟩
  | false =>
   have hr:=HR.out;rw [if_neg (by simp)] at hr;clear HR;by_cases e1:k=1
   ·rw [if_pos e1] at hr;subst e1 hr;go_wp2_with fail;refine (HIN.out _).mono ?_;rintro e w4 ⟨rfl,hb4⟩;have hW4:=hW3.trans (hb4.mono hW3.size);have hB4:=hw2.trans (hW4.mono hw2.size);clear hb4 hW4 hW3 hB3;go_wp2_with fail;go_ret;exact ⟨rfl,hB4⟩
   ·rw [if_neg e1] at hr;have t1:(k==1)=false:=nB e1;by_cases e4:k=4
    ·rw [if_pos e4,HS0.out] at hr;subst e4;clear e1 HS0;go_wp2_with fail;refine (HT.out _).mono ?_;rintro e w4 ⟨rfl,hb4⟩;have hW4:=hW3.trans (hb4.mono hW3.size);have hB4:=hw2.trans (hW4.mono hw2.size);clear d0 d1 d2 d3 d4 d5 d6 d7 d8 hb4 HT hW3 hB3;obtain ⟨d0,d1,d2,d3,d4,d5,d6,d7,d8⟩:=CELL.out _ hW4;cases tb with
     | false =>
      rw [if_pos (.inl rfl)] at hr;subst hr;go_wp2_with fail;go_ret;exact ⟨rfl,hB4⟩
     | true =>
      by_cases f0:tc=c
      ·subst f0;by_cases f1:tn=n
       ·subst f1;rw [if_pos (.inr ⟨rfl,rfl⟩)] at hr;subst hr;go_wp2_with fail;go_ret;exact ⟨rfl,hB4⟩
       ·rw [if_neg (by simp [f1])] at hr;subst hr;have t2:(tn==n)=false:=nB f1;clear f1;go_wp2_with fail;go_ret;exact ⟨rfl,hB4⟩
      ·rw [if_neg (by simp [f0])] at hr;subst hr;have t2:(tc==c)=false:=nB f0;clear f0;go_wp2_with fail;go_ret;exact ⟨rfl,hB4⟩
    ·rw [if_neg e4,HS1.out] at hr;have t4:(k==4)=false:=nB e4;clear e1 e4 HS1;by_cases hm:m=0
     ·subst hm;rw [if_pos (List.eq_nil_of_length_eq_zero hlen)] at hr;subst hr;clear hlen HRC HRN;go_wp2_with fail;go_ret;exact ⟨rfl,hB3⟩
     ·rw [if_neg (fun e=>hm (by rw [← hlen,e];rfl))] at hr;obtain ⟨i,rfl⟩:∃ i,m=i+1:=⟨m-1,by omega⟩;obtain ⟨g,off,rfl,hg,hc0,hc1⟩:=HRN.out.cells i (by omega);have hlast:lastHi l=(l.getD i (0,0)).2:=by unfold lastHi;rw [hlen];rfl
      rw [hlast] at hr;obtain ⟨hi,hhi⟩:∃ hi,(l.getD i (0,0)).2=hi:=⟨_,rfl⟩;rw [hhi] at hr hc1;clear hhi hlast hc0 hm hlen HRN;have t0:(((i+1:Nat):Int)==0)=false:=nB (by omega);go_wp2_with fail;refine (HRC.out _ hB3).mono ?_;rintro e w4 ⟨rfl,hb4⟩;have hW4:=hW3.trans (hb4.mono hW3.size);have hB4:=hw2.trans (hW4.mono hw2.size);clear d0 d1 d2 d3 d4 d5 d6 d7 d8 hb4 HRC hW3 hB3;obtain ⟨d0,d1,d2,d3,d4,d5,d6,d7,d8⟩:=CELL.out _ hW4;have dh:w4.cell? ⟨g,off+i*2+1,none⟩=some (.int .i64 hi):=(hB4.cell (p:=⟨g,off+i*2+1,none⟩) hg).trans hc1;clear hc1;by_cases hz:z=0
      ·subst hz;rw [if_neg (by simp)] at hr;by_cases ht:total<hi
       ·rw [if_pos ht] at hr;subst hr;go_wp2_with fail;go_ret;exact ⟨rfl,hB4⟩
       ·rw [if_neg ht] at hr;subst hr;go_wp2_with fail;go_ret;exact ⟨rfl,hB4⟩
      ·rw [if_pos hz] at hr;subst hr;have t2:(z==0)=false:=nB hz;clear hz;go_wp2_with fail;go_ret;exact ⟨rfl,hB4⟩
 ·subst e0 e1;rw [if_neg (by simp)] at HR;clear HQ;go_wp2_with fail;refine (HX.out _).mono ?_;rintro e w3 ⟨rfl,hb3⟩;have hW3:=hW2.trans (hb3.mono hW2.size);have hB3:=hw2.trans (hW3.mono hw2.size);clear d0 d1 d2 d3 d4 d5 d6 d7 d8 hb3 HX hW2 hB2;obtain ⟨d0,d1,d2,d3,d4,d5,d6,d7,d8⟩:=CELL.out _ hW3;cases ex with
  | true =>
   have hr:=HR.out;rw [if_pos rfl] at hr;subst hr;clear HR;go_wp2_with fail;go_ret;exact ⟨rfl,hB3⟩
  | false =>
   have hr:=HR.out;rw [if_neg (by simp)] at hr;clear HR;by_cases e1:k=1
   ·rw [if_pos e1] at hr;subst e1 hr;go_wp2_with fail;refine (HIN.out _).mono ?_;rintro e w4 ⟨rfl,hb4⟩;have hW4:=hW3.trans (hb4.mono hW3.size);have hB4:=hw2.trans (hW4.mono hw2.size);clear hb4 hW4 hW3 hB3;go_wp2_with fail;go_ret;exact ⟨rfl,hB4⟩
   ·rw [if_neg e1] at hr;have t1:(k==1)=false:=nB e1;by_cases e4:k=4
    ·rw [if_pos e4,HS0.out] at hr;subst e4;clear e1 HS0;go_wp2_with fail;refine (HT.out _).mono ?_;rintro e w4 ⟨rfl,hb4⟩;have hW4:=hW3.trans (hb4.mono hW3.size);have hB4:=hw2.trans (hW4.mono hw2.size);clear d0 d1 d2 d3 d4 d5 d6 d7 d8 hb4 HT hW3 hB3;obtain ⟨d0,d1,d2,d3,d4,d5,d6,d7,d8⟩:=CELL.out _ hW4;cases tb with
     | false =>
      rw [if_pos (.inl rfl)] at hr;subst hr;go_wp2_with fail;go_ret;exact ⟨rfl,hB4⟩
     | true =>
      by_cases f0:tc=c
      ·subst f0;by_cases f1:tn=n
       ·subst f1;rw [if_pos (.inr ⟨rfl,rfl⟩)] at hr;subst hr;go_wp2_with fail;go_ret;exact ⟨rfl,hB4⟩
       ·rw [if_neg (by simp [f1])] at hr;subst hr;have t2:(tn==n)=false:=nB f1;clear f1;go_wp2_with fail;go_ret;exact ⟨rfl,hB4⟩
      ·rw [if_neg (by simp [f0])] at hr;subst hr;have t2:(tc==c)=false:=nB f0;clear f0;go_wp2_with fail;go_ret;exact ⟨rfl,hB4⟩
    ·rw [if_neg e4,HS1.out] at hr;have t4:(k==4)=false:=nB e4;clear e1 e4 HS1;by_cases hm:m=0
     ·subst hm;rw [if_pos (List.eq_nil_of_length_eq_zero hlen)] at hr;subst hr;clear hlen HRC HRN;go_wp2_with fail;go_ret;exact ⟨rfl,hB3⟩
     ·rw [if_neg (fun e=>hm (by rw [← hlen,e];rfl))] at hr;obtain ⟨i,rfl⟩:∃ i,m=i+1:=⟨m-1,by omega⟩;obtain ⟨g,off,rfl,hg,hc0,hc1⟩:=HRN.out.cells i (by omega);have hlast:lastHi l=(l.getD i (0,0)).2:=by unfold lastHi;rw [hlen];rfl
      rw [hlast] at hr;obtain ⟨hi,hhi⟩:∃ hi,(l.getD i (0,0)).2=hi:=⟨_,rfl⟩;rw [hhi] at hr hc1;clear hhi hlast hc0 hm hlen HRN;have t0:(((i+1:Nat):Int)==0)=false:=nB (by omega);go_wp2_with fail;refine (HRC.out _ hB3).mono ?_;rintro e w4 ⟨rfl,hb4⟩;have hW4:=hW3.trans (hb4.mono hW3.size);have hB4:=hw2.trans (hW4.mono hw2.size);clear d0 d1 d2 d3 d4 d5 d6 d7 d8 hb4 HRC hW3 hB3;obtain ⟨d0,d1,d2,d3,d4,d5,d6,d7,d8⟩:=CELL.out _ hW4;have dh:w4.cell? ⟨g,off+i*2+1,none⟩=some (.int .i64 hi):=(hB4.cell (p:=⟨g,off+i*2+1,none⟩) hg).trans hc1;clear hc1;by_cases hz:z=0
      ·subst hz;rw [if_neg (by simp)] at hr;by_cases ht:total<hi
       ·rw [if_pos ht] at hr;subst hr;go_wp2_with fail;go_ret;exact ⟨rfl,hB4⟩
       ·rw [if_neg ht] at hr;subst hr;go_wp2_with fail;go_ret;exact ⟨rfl,hB4⟩
      ·rw [if_pos hz] at hr;subst hr;have t2:(z==0)=false:=nB hz;clear hz;go_wp2_with fail;go_ret;exact ⟨rfl,hB4⟩
 ·subst e0 e1;have hr:=HR.out;rw [if_pos ⟨rfl,rfl⟩] at hr;subst hr;clear HR HQ;go_wp2_with fail;go_ret;exact ⟨rfl,hB2⟩
theorem gOwn_any {o:OpV} {w:World} {a:Option Addr} {m cap:Nat} (h:Rng w a m cap o.l) (hs:o.s.size≤2097152) :
  Calls Tryz.prog 73 #[opVal o (.slice a m cap)] w fun e w'=>e=.returned (.int .i64 (ownP o))∧Below w.heap.size w w':=by
 obtain ⟨c,n,k,p,s,l,tc,tn,on⟩:=o;simp only at h hs;have hw2:Below w.heap.size w (w.alloc (Obj.cells #[.int .i64 c,.int .i64 n,.int .i64 k,.int .i64 p,.string s,.slice a m cap,.int .i64 tc,.int .i64 tn,.bool on] 44)):=(bE w.heap.size w).alloc (lR _) _;have HC:Hid (∀ t:Int,∀ w':World,Below w.heap.size w w'→Calls Tryz.prog 27 #[.agg #[.int .i64 c,.int .i64 n,.int .i64 k,.int .i64 p,.string s,.slice a m cap,.int .i64 tc,.int .i64 tn,.bool on],.int .i64 t] w' fun e w''=>e=.returned (.int .i64 (opCheck ⟨c,n,k,p,s,l,tc,tn,on⟩ t))∧Below w'.heap.size w' w''):=fun t w' hb=>gCheck_any (o:=⟨c,n,k,p,s,l,tc,tn,on⟩) (h.below hb) hs
 clear h hs;obtain ⟨r,hr⟩:∃ r,ownP ⟨c,n,k,p,s,l,tc,tn,on⟩=r:=⟨_,rfl⟩;rw [hr];simp only [ownP] at hr;simp only [opVal];by_cases e1:k=1
 ·subst e1;by_cases e2:0≤p
  ·by_cases e3:p≤1048576
   ·rw [if_pos ⟨rfl,e2,e3⟩] at hr;subst hr;go_enter Tryz.func73,Tryz.ntmps73;go_wp2_with fail;refine (HC.out _ _ hw2).mono ?_;rintro e w1 ⟨rfl,hb1⟩;have hB:=hw2.trans (hb1.mono hw2.size);clear hw2 hb1 HC;go_wp2_with fail;go_ret;exact ⟨rfl,hB⟩
   ·rw [if_neg (fun hh=>e3 hh.2.2)] at hr;subst hr;have t3:decide (p≤1048576)=false:=decide_eq_false e3;clear e3;go_enter Tryz.func73,Tryz.ntmps73;go_wp2_with fail;refine (HC.out _ _ hw2).mono ?_;rintro e w1 ⟨rfl,hb1⟩;have hB:=hw2.trans (hb1.mono hw2.size);clear hw2 hb1 HC;go_wp2_with fail;go_ret;exact ⟨rfl,hB⟩
  ·rw [if_neg (fun hh=>e2 hh.2.1)] at hr;subst hr;have t3:decide (0≤p)=false:=decide_eq_false e2;clear e2;go_enter Tryz.func73,Tryz.ntmps73;go_wp2_with fail;refine (HC.out _ _ hw2).mono ?_;rintro e w1 ⟨rfl,hb1⟩;have hB:=hw2.trans (hb1.mono hw2.size);clear hw2 hb1 HC;go_wp2_with fail;go_ret;exact ⟨rfl,hB⟩
 ·rw [if_neg (fun hh=>e1 hh.1)] at hr;subst hr;have t1:(k==1)=false:=nB e1;clear e1;go_enter Tryz.func73,Tryz.ntmps73;go_wp2_with fail;refine (HC.out _ _ hw2).mono ?_;rintro e w1 ⟨rfl,hb1⟩;have hB:=hw2.trans (hb1.mono hw2.size);clear hw2 hb1 HC;go_wp2_with fail;go_ret;exact ⟨rfl,hB⟩
theorem bx9 {W:World} {b:Nat} {T:TypeId} {v0 v1 v2 v3 v4 v5 v6 v7 v8:Value} (h:W.heap[b]?=some (.cells #[v0,v1,v2,v3,v4,v5,v6,v7,v8] T)) :
  W.cell? ⟨b,0,none⟩=some v0∧W.cell? ⟨b,1,none⟩=some v1∧W.cell? ⟨b,2,none⟩=some v2∧W.cell? ⟨b,3,none⟩=some v3∧W.cell? ⟨b,4,none⟩=some v4∧W.cell? ⟨b,5,none⟩=some v5∧W.cell? ⟨b,6,none⟩=some v6∧W.cell? ⟨b,7,none⟩=some v7∧W.cell? ⟨b,8,none⟩=some v8:=by
 simp only [cH h];exact ⟨rfl,rfl,rfl,rfl,rfl,rfl,rfl,rfl,rfl⟩
theorem gRanges_any {l:List (Int×Int)} {w:World} {a:Option Addr} {m cap:Nat} (h:Rng w a m cap l) (hm:m*16≤140737488351232) :
  Calls Tryz.prog 74 #[.slice a m cap] w fun e w'=>∃ v,e=.returned v∧OwnF rngV 2 76 w' w.heap.size v l∧Below w.heap.size w w':=by
 have hl:=rw_of_rng h;have HLL:Hid (l.length=m):=hl.len;clear h;go_enter Tryz.func74,Tryz.ntmps74;go_wp2_with fail;go_loopw [3,4] (fun v vi W=>∃ i:Nat,vi=.int .i64 (i:Int)∧i≤m∧OwnF rngV 2 76 W w.heap.size v (l.take i)∧Below w.heap.size w W) (fun _ vi _=>m-(RowKit.intOf vi).toNat)
 case atStart=>exact ⟨0,rfl,Nat.zero_le _,by rw [List.take_zero];exact ownF_nil _ _,bE _ _⟩
 case round =>
  obtain ⟨i,rfl,him,ho,hB⟩:=hrel;have hli:(l.take i).length=i:=by rw [List.length_take];have:=HLL.out;omega
  by_cases hi:i<m
  ·obtain ⟨g,off,x,rfl,hg,hx,hc⟩:=hl.at i hi;have ht:l.take i++[x]=l.take (i+1):=by
    obtain ⟨hj,rfl⟩:=List.getElem?_eq_some_iff.1 hx;rw [List.take_succ_eq_append_getElem hj]
   have HT:Hid (l.take i++[x]=l.take (i+1)):=ht;clear ht;obtain ⟨xlo,xhi⟩:=x;have k0:wr.cell? ⟨g,off+i*2,none⟩=some (.int .i64 xlo):=(hB.cell (p:=⟨g,off+i*2+0,none⟩) hg).trans (hc 0 _ rfl);have k1:wr.cell? ⟨g,off+i*2+1,none⟩=some (.int .i64 xhi):=(hB.cell (p:=⟨g,off+i*2+1,none⟩) hg).trans (hc 1 _ rfl);have hBs:=hB.size;obtain ⟨av,cv,rfl⟩:=ho.shape;obtain ⟨g5,cap5,w6,hr,ho6,hb6,_,_⟩:=appendF_one kindRo layRo ho hBs (xlo,xhi) #[.int .i64 xlo,.int .i64 xhi] rfl 76 (by rw [hli];omega) (by rw [hli];omega) 42;rw [HT.out] at ho6;rw [hli] at hr ho6;rw [hli];clear hc hx ho;go_wp2_with (at_builtin;refine wpList_append_hr rfl _ _ 42 rfl _ _ rfl rfl hr ?_);go_roundw
   case rel=>exact ⟨i+1,by go_num,by omega,ho6,hB.trans hb6⟩
   case measure=>simp [RowKit.intOf];omega
  ·obtain rfl:i=m:=by omega
   rw [show l.take i=l from List.take_of_length_le (by have:=HLL.out;omega)] at ho;go_wp2_with fail;go_ret;exact ⟨_,rfl,ho,hB⟩
def coversV (o:OpV):List (Int×Int):=if ownP o=0 then coveredP o else []
theorem opCovers_any {o:OpV} {w:World} {a:Option Addr} {m cap:Nat} (h:Rng w a m cap o.l) (hm:m≤1000000000) (hs:o.s.size≤9223372036854775807) (hw:Bar w) :
  Calls Tryz.prog 36 #[opVal o (.slice a m cap)] w fun e w'=>∃ v,e=.returned v∧OwnF rngV 2 76 w' w.heap.size v (coversV o)∧Below w.heap.size w w':=by
 obtain ⟨C,hC⟩:∃ C,ownP o=C:=⟨_,rfl⟩;have HO:Hid (∀ w':World,Below w.heap.size w w'→Calls Tryz.prog 52 #[opVal o (.slice a m cap)] w' fun e w''=>e=.returned (.int .i64 C)∧Below w'.heap.size w' w''):=fun w' hb=>by rw [← hC];exact ownError_any (h.below hb) hs (hw.below hb)
 have HV:Hid (C=0→∀ w':World,Below w.heap.size w w'→Calls Tryz.prog 72 #[opVal o (.slice a m cap)] w' fun e w''=>∃ v,e=.returned v∧OwnF rngV 2 76 w'' (w'.heap.size+1) v (coveredP o)∧Below w'.heap.size w' w''):=fun h0 w' hb=>covered_any (h.below hb) hm hs (hw.below hb) (right_of (hC.trans h0))
 have HL:Hid (coversV o=if C=0 then coveredP o else []):=by show coversV o=_;unfold coversV;rw [hC]
 clear h hs hw hC hm;obtain ⟨c,n,k,p,s,l,tc,tn,on⟩:=o;simp only [opVal] at *;obtain ⟨W1,hW1⟩:∃ W1,w.alloc (Obj.cells #[.int .i64 c,.int .i64 n,.int .i64 k,.int .i64 p,.string s,.slice a m cap,.int .i64 tc,.int .i64 tn,.bool on] 44)=W1:=⟨_,rfl⟩;have hX:Below w.heap.size w W1:=hW1▸(bE w.heap.size w).alloc (lR _) _;have hx1:W1.heap[w.heap.size]?=some (Obj.cells #[.int .i64 c,.int .i64 n,.int .i64 k,.int .i64 p,.string s,.slice a m cap,.int .i64 tc,.int .i64 tn,.bool on] 44):=hW1▸alloc_last _ _ _ rfl;obtain ⟨y0,y1,y2,y3,y4,y5,y6,y7,y8⟩:=bx9 hx1;go_enter Tryz.func36,Tryz.ntmps36;go_wp2_with fail;refine (HO.out _ hX).mono ?_;rintro e w1 ⟨rfl,hb1⟩;have hB1:=hX.trans (hb1.mono hX.size);have hx2:=(hb1.block _ (gA hx1)).trans hx1;clear y0 y1 y2 y3 y4 y5 y6 y7 y8 hx1 hX hW1;obtain ⟨y0,y1,y2,y3,y4,y5,y6,y7,y8⟩:=bx9 hx2;by_cases h0:C=0
 ·subst h0;have T:=HV.out rfl w1 hB1;have hl:=HL.out;rw [if_pos rfl] at hl;have HL2:Hid (coversV ⟨c,n,k,p,s,l,tc,tn,on⟩=coveredP ⟨c,n,k,p,s,l,tc,tn,on⟩):=hl;clear hl HL HV HO hb1 hx2;go_wp2_with fail;refine T.mono ?_;rintro e w2 ⟨v,rfl,ho,hb2⟩;clear T;go_wp2_with fail;go_ret;exact ⟨_,rfl,by rw [HL2.out];exact ho.mono (by have:=hB1.size;omega),hB1.trans (hb2.mono hB1.size)⟩
 ·have t1:(C==0)=false:=nB h0;have hl:=HL.out;rw [if_neg h0] at hl;have HL2:Hid (coversV ⟨c,n,k,p,s,l,tc,tn,on⟩=[]):=hl;clear hl HL HV HO hb1 hx2 h0;go_wp2_with fail;go_ret;exact ⟨_,rfl,by rw [HL2.out];exact ownF_nil _ _,hB1⟩
theorem gCovers_any {o:OpV} {w:World} {a:Option Addr} {m cap:Nat} (h:Rng w a m cap o.l) (hm:m≤1000000000) (hs:o.s.size≤2097152) :
  Calls Tryz.prog 37 #[opVal o (.slice a m cap)] w fun e w'=>∃ v,e=.returned v∧OwnF rngV 2 76 w' w.heap.size v (coversV o)∧Below w.heap.size w w':=by
 obtain ⟨C,hC⟩:∃ C,ownP o=C:=⟨_,rfl⟩;have HO:Hid (∀ w':World,Below w.heap.size w w'→Calls Tryz.prog 73 #[opVal o (.slice a m cap)] w' fun e w''=>e=.returned (.int .i64 C)∧Below w'.heap.size w' w''):=fun w' hb=>by rw [← hC];exact gOwn_any (h.below hb) hs
 have HW:Hid (∀ w':World,Calls Tryz.prog 35 #[opVal o (.slice a m cap)] w' fun e w''=>e=.returned (.int .i64 (widthP o))∧Below w'.heap.size w' w''):=fun w'=>gWidth_any hs w'
 have HG:Hid (∀ w':World,Below w.heap.size w w'→Calls Tryz.prog 74 #[.slice a m cap] w' fun e w''=>∃ v,e=.returned v∧OwnF rngV 2 76 w'' w'.heap.size v o.l∧Below w'.heap.size w' w''):=fun w' hb=>gRanges_any (h.below hb) (by omega)
 have HL:Hid (coversV o=if C=0 then coveredP o else []):=by show coversV o=_;unfold coversV;rw [hC]
 have HI:Hid (C=0→o.k=1→0≤o.p∧o.p≤1048576∧0≤widthP o∧widthP o≤1048576):=fun h0 hk=>by
  have hR:=right_of (hC.trans h0);obtain ⟨h1,h2,h3⟩:=hR.ins hk;have h4:=insP_code _ _ h3;have e:widthP o=(check o.s).1:=by unfold widthP;rw [if_pos hk]
  have h5:=h4.2.2.2.2.1;have h6:=check_nonneg o.s;rw [e];refine ⟨h1,h2,?_,?_⟩
  ·exact h6
  ·omega
 clear h hs hC hm;obtain ⟨c,n,k,p,s,l,tc,tn,on⟩:=o;simp only [opVal] at *;obtain ⟨W1,hW1⟩:∃ W1,w.alloc (Obj.cells #[.int .i64 c,.int .i64 n,.int .i64 k,.int .i64 p,.string s,.slice a m cap,.int .i64 tc,.int .i64 tn,.bool on] 44)=W1:=⟨_,rfl⟩;have hX:Below w.heap.size w W1:=hW1▸(bE w.heap.size w).alloc (lR _) _;have hx1:W1.heap[w.heap.size]?=some (Obj.cells #[.int .i64 c,.int .i64 n,.int .i64 k,.int .i64 p,.string s,.slice a m cap,.int .i64 tc,.int .i64 tn,.bool on] 44):=hW1▸alloc_last _ _ _ rfl;obtain ⟨y0,y1,y2,y3,y4,y5,y6,y7,y8⟩:=bx9 hx1;go_enter Tryz.func37,Tryz.ntmps37;go_wp2_with fail;refine (HO.out _ hX).mono ?_;rintro e w1 ⟨rfl,hb1⟩;have hB1:=hX.trans (hb1.mono hX.size);have hx2:=(hb1.block _ (gA hx1)).trans hx1;clear y0 y1 y2 y3 y4 y5 y6 y7 y8 hx1 hX hW1;obtain ⟨y0,y1,y2,y3,y4,y5,y6,y7,y8⟩:=bx9 hx2;by_cases h0:C=0
 ·subst h0;have hl:=HL.out;rw [if_pos rfl] at hl;by_cases hk:k=1
  ·subst hk;have hI:=HI.out rfl rfl;obtain ⟨i1,i2,i3,i4⟩:=hI;have T:=HW.out w1;have hl2:coversV ⟨c,n,1,p,s,l,tc,tn,on⟩=[(p,p+widthP ⟨c,n,1,p,s,l,tc,tn,on⟩)]:=by rw [hl];unfold coveredP;rw [if_pos rfl]
   obtain ⟨wd,hwd⟩:∃ wd,widthP ⟨c,n,1,p,s,l,tc,tn,on⟩=wd:=⟨_,rfl⟩;rw [hwd] at T i3 i4 hl2;have ew:IntKind.i64.wrap (p+wd)=p+wd:=IntWalk.i64_in _ (by omega);have HL2:Hid (coversV ⟨c,n,1,p,s,l,tc,tn,on⟩=[(p,p+wd)]):=hl2;clear hl hl2 HL HG HO HW HI hb1 hwd;go_wp2_with fail;refine T.mono ?_;rintro e w2 ⟨rfl,hb2⟩;have hx3:=(hb2.block _ (gA hx2)).trans hx2;clear T y0 y1 y2 y3 y4 y5 y6 y7 y8 hx2;obtain ⟨y0,y1,y2,y3,y4,y5,y6,y7,y8⟩:=bx9 hx3;have hB2:=hB1.trans (hb2.mono hB1.size);obtain ⟨W3,hW3⟩:∃ W3,w2.alloc (Obj.cells #[.int .i64 p,.int .i64 (p+wd)] 76)=W3:=⟨_,rfl⟩;have hb3:Below w2.heap.size w2 W3:=hW3▸(bE w2.heap.size w2).alloc (lR _) _;have hx4:W3.heap[w2.heap.size]?=some (Obj.cells #[.int .i64 p,.int .i64 (p+wd)] 76):=hW3▸alloc_last _ _ _ rfl;have HOW:Hid (OwnF rngV 2 76 W3 w.heap.size (.slice (some ⟨w2.heap.size,0,none⟩) 1 1) [(p,p+wd)]):=own_lit hx4 (by have:=hB2.size;omega);have HBB:Hid (Below w.heap.size w W3):=hB2.trans (hb3.mono hB2.size);clear hb2 hx3 hb3 hx4;go_wp2_with fail;go_ret;exact ⟨_,rfl,by rw [HL2.out];exact HOW.out,HBB.out⟩
  ·have t1:(k==1)=false:=nB hk;have T:=HG.out w1 hB1;have hl2:coversV ⟨c,n,k,p,s,l,tc,tn,on⟩=l:=by rw [hl];unfold coveredP;rw [if_neg hk]
   have HL2:Hid (coversV ⟨c,n,k,p,s,l,tc,tn,on⟩=l):=hl2;clear hl hl2 HL HG HO HW HI hb1 hx2 hk;go_wp2_with fail;refine T.mono ?_;rintro e w2 ⟨v,rfl,ho,hb2⟩;clear T;go_wp2_with fail;go_ret;exact ⟨_,rfl,by rw [HL2.out];exact ho.mono (by have:=hB1.size;omega),hB1.trans (hb2.mono hB1.size)⟩
 ·have t1:(C==0)=false:=nB h0;have hl:=HL.out;rw [if_neg h0] at hl;have HL2:Hid (coversV ⟨c,n,k,p,s,l,tc,tn,on⟩=[]):=hl;clear hl HL HG HO HW HI hb1 hx2 h0;go_wp2_with fail;go_ret;exact ⟨_,rfl,by rw [HL2.out];exact ownF_nil _ _,hB1⟩
end Go.Proofs.YtijpfbcippijoaaGreatDoor
namespace Go.Proofs
open Go.Shelf
def Tryz.lays316_ren:Go.Shelf.Ren:=⟨fun|316=>102|n=>n,fun|0=>0|3=>3|4=>4|5=>5|9=>9|37=>85|127=>127|n=>n,fun|n=>n⟩
theorem Tryz.lays316:Go.Proofs.LaysM.n316 Tryz.prog Tryz.lays316_ren:={
 mixed:=by kernel_rfl
 f316:=Tryz.func102.trans (congrArg some (by kernel_rfl))
 t0:=Tryz.underlying0
 a0:=Tryz.isAgg0
 z0:=Tryz.sizeOf0
 v0:=Tryz.zeroValue0
 i0:=by kernel_rfl
 t3:=Tryz.underlying3
 a3:=Tryz.isAgg3
 z3:=Tryz.sizeOf3
 v3:=Tryz.zeroValue3
 i3:=by kernel_rfl
 t4:=Tryz.underlying4
 a4:=Tryz.isAgg4
 z4:=Tryz.sizeOf4
 v4:=Tryz.zeroValue4
 i4:=by kernel_rfl
 t5:=Tryz.underlying5
 a5:=Tryz.isAgg5
 z5:=Tryz.sizeOf5
 v5:=Tryz.zeroValue5
 i5:=by kernel_rfl
 t9:=Tryz.underlying9
 a9:=Tryz.isAgg9
 z9:=Tryz.sizeOf9
 v9:=Tryz.zeroValue9
 i9:=by kernel_rfl
 t37:=Tryz.underlying85
 a37:=Tryz.isAgg85
 z37:=Tryz.sizeOf85
 v37:=Tryz.zeroValue85
 i37:=by kernel_rfl
 t127:=Tryz.underlying127
 a127:=Tryz.isAgg127
 z127:=Tryz.sizeOf127
 v127:=Tryz.zeroValue127
 i127:=by kernel_rfl }
open Go.RowKit in
theorem Tryz.clone_any (s:ByteArray) (w:World) (hlim:s.size≤281474976710656) :
  Calls Tryz.prog 102 #[.string s] w fun e w'=>e=.returned (.string s)∧Below w.heap.size w w':=Any.stringslite_Clone Tryz.lays316 s w hlim
end Go.Proofs
namespace Go.Proofs.YtijpfbcippijoaaGreatDoor
open Go.RowKit Go.Lib Sp
theorem strClone_any (s:ByteArray) (hs:s.size≤281474976710656) (w:World):Calls Tryz.prog 76 #[.string s] w fun e w'=>e=.returned (.string s)∧Below w.heap.size w w':=by
 have HC:Hid (∀ w:World,Calls Tryz.prog 102 #[.string s] w fun e w'=>e=.returned (.string s)∧Below w.heap.size w w'):=fun w=>Tryz.clone_any s w hs
 go_enter Tryz.func76,Tryz.ntmps76;go_wp2_with fail;refine (HC.out _).mono ?_;rintro e w1 ⟨rfl,hb1⟩;go_wp2_with fail;go_ret;exact ⟨rfl,hb1⟩
theorem opClone_any {o:OpV} {w:World} {a:Option Addr} {m cap:Nat} (h:Rng w a m cap o.l) (hm:m≤1000000000) (hs:o.s.size≤281474976710656) :
  Calls Tryz.prog 40 #[opVal o (.slice a m cap)] w fun e w'=>∃ a' cap',e=.returned (opVal o (.slice a' m cap'))∧OwnF rngV 2 76 w' (w.heap.size+2) (.slice a' m cap') o.l∧Below w.heap.size w w':=by
 have hlen:=h.len;have HS:Hid (∀ w':World,Calls Tryz.prog 76 #[.string o.s] w' fun e w''=>e=.returned (.string o.s)∧Below w'.heap.size w' w''):=fun w'=>strClone_any o.s hs w'
 have HR:Hid (∀ w':World,Below w.heap.size w w'→Calls Tryz.prog 77 #[.slice a m cap] w' fun e w''=>∃ v,e=.returned v∧OwnF rngV 2 76 w'' w'.heap.size v o.l∧Below w'.heap.size w' w''):=fun w' hb=>copiedR_any (h.below hb) hm
 clear h hm hs;obtain ⟨c,n,k,p,s,l,tc,tn,on⟩:=o;simp only at hlen HS HR;simp only [opVal];have hX:Below w.heap.size w ((w.alloc (Obj.cells #[.int .i64 c,.int .i64 n,.int .i64 k,.int .i64 p,.string s,.slice a m cap,.int .i64 tc,.int .i64 tn,.bool on] 44)).alloc (Obj.cells #[.int .i64 0,.int .i64 0,.int .i64 0,.int .i64 0,.string ⟨#[]⟩,.slice none 0 0,.int .i64 0,.int .i64 0,.bool false] 44)):=((bE w.heap.size w).alloc (lR _) _).alloc (by simp) _;have y0:((w.alloc (Obj.cells #[.int .i64 c,.int .i64 n,.int .i64 k,.int .i64 p,.string s,.slice a m cap,.int .i64 tc,.int .i64 tn,.bool on] 44)).alloc (Obj.cells #[.int .i64 0,.int .i64 0,.int .i64 0,.int .i64 0,.string ⟨#[]⟩,.slice none 0 0,.int .i64 0,.int .i64 0,.bool false] 44)).heap[w.heap.size]?=some (Obj.cells #[.int .i64 c,.int .i64 n,.int .i64 k,.int .i64 p,.string s,.slice a m cap,.int .i64 tc,.int .i64 tn,.bool on] 44):=(Below.heap_alloc _ _ _ (by simp)).trans (alloc_last _ _ _ rfl);have x0:((w.alloc (Obj.cells #[.int .i64 c,.int .i64 n,.int .i64 k,.int .i64 p,.string s,.slice a m cap,.int .i64 tc,.int .i64 tn,.bool on] 44)).alloc (Obj.cells #[.int .i64 0,.int .i64 0,.int .i64 0,.int .i64 0,.string ⟨#[]⟩,.slice none 0 0,.int .i64 0,.int .i64 0,.bool false] 44)).heap[w.heap.size+1]?=some (Obj.cells #[.int .i64 0,.int .i64 0,.int .i64 0,.int .i64 0,.string ⟨#[]⟩,.slice none 0 0,.int .i64 0,.int .i64 0,.bool false] 44):=alloc_last _ _ _ (by simp);have hXs:((w.alloc (Obj.cells #[.int .i64 c,.int .i64 n,.int .i64 k,.int .i64 p,.string s,.slice a m cap,.int .i64 tc,.int .i64 tn,.bool on] 44)).alloc (Obj.cells #[.int .i64 0,.int .i64 0,.int .i64 0,.int .i64 0,.string ⟨#[]⟩,.slice none 0 0,.int .i64 0,.int .i64 0,.bool false] 44)).heap.size=w.heap.size+2:=by simp
 go_enter Tryz.func40,Tryz.ntmps40;go_wp2_with fail;refine (HS.out _).mono ?_;rintro e w1 ⟨rfl,hb1⟩;have hB1:=hX.trans (hb1.mono hX.size);have x1:=(hb1.block _ (gA x0)).trans x0;have y1:=(hb1.block _ (gA y0)).trans y0;have hs1:w.heap.size+2≤w1.heap.size:=by have:=hb1.size;rw [hXs] at this;exact this
 clear hX x0 y0 hb1 hXs;have f0:w1.cell? ⟨w.heap.size,0,none⟩=some (.int .i64 c):=by rw [cH y1];rfl
 have f1:w1.cell? ⟨w.heap.size,1,none⟩=some (.int .i64 n):=by rw [cH y1];rfl
 have f2:w1.cell? ⟨w.heap.size,2,none⟩=some (.int .i64 k):=by rw [cH y1];rfl
 have f3:w1.cell? ⟨w.heap.size,3,none⟩=some (.int .i64 p):=by rw [cH y1];rfl
 have f4:w1.cell? ⟨w.heap.size,4,none⟩=some (.string s):=by rw [cH y1];rfl
 have fz4:w1.frozen? ⟨w.heap.size,4,none⟩=false:=Lib.frozen_of_heap y1 4;have f5:w1.cell? ⟨w.heap.size,5,none⟩=some (.slice a m cap):=by rw [cH y1];rfl
 have f6:w1.cell? ⟨w.heap.size,6,none⟩=some (.int .i64 tc):=by rw [cH y1];rfl
 have f7:w1.cell? ⟨w.heap.size,7,none⟩=some (.int .i64 tn):=by rw [cH y1];rfl
 have f8:w1.cell? ⟨w.heap.size,8,none⟩=some (.bool on):=by rw [cH y1];rfl
 have sy:(w1.setCell ⟨w.heap.size,4,none⟩ (.string s)).heap[w.heap.size]?=some (Obj.cells #[.int .i64 c,.int .i64 n,.int .i64 k,.int .i64 p,.string s,.slice a m cap,.int .i64 tc,.int .i64 tn,.bool on] 44):=(heap_setCell_same _ w.heap.size 4 _ _ _ y1).trans (by simp);have sx:(w1.setCell ⟨w.heap.size,4,none⟩ (.string s)).heap[w.heap.size+1]?=some (Obj.cells #[.int .i64 0,.int .i64 0,.int .i64 0,.int .i64 0,.string ⟨#[]⟩,.slice none 0 0,.int .i64 0,.int .i64 0,.bool false] 44):=(Below.heap_setCell _ _ _ _ (by simp)).trans x1;have sB:=hB1.setCell (p:=⟨w.heap.size,4,none⟩) (lR _) (.string s);have hs2:w.heap.size+2≤(w1.setCell ⟨w.heap.size,4,none⟩ (.string s)).heap.size:=by simpa [World.setCell] using hs1
 go_wp2_with fail;refine (HR.out _ sB).mono ?_;rintro e w2 ⟨v,rfl,hown,hb2⟩;have hB2:=sB.trans (hb2.mono sB.size);have x2:=(hb2.block _ (gA sx)).trans sx;have y2:=(hb2.block _ (gA sy)).trans sy;obtain ⟨va,vc,rfl⟩:=hown.shape;rw [hlen] at hown ⊢;have HO:Hid (OwnF rngV 2 76 w2 (w.heap.size+2) (.slice va m vc) l):=hown.mono hs2;clear f0 f1 f2 f3 f4 f5 f6 f7 f8 fz4 sy sx sB hb2 hown x1 y1 hB1 hs1 hs2;have f0:w2.cell? ⟨w.heap.size,0,none⟩=some (.int .i64 c):=by rw [cH y2];rfl
 have f1:w2.cell? ⟨w.heap.size,1,none⟩=some (.int .i64 n):=by rw [cH y2];rfl
 have f2:w2.cell? ⟨w.heap.size,2,none⟩=some (.int .i64 k):=by rw [cH y2];rfl
 have f3:w2.cell? ⟨w.heap.size,3,none⟩=some (.int .i64 p):=by rw [cH y2];rfl
 have f4:w2.cell? ⟨w.heap.size,4,none⟩=some (.string s):=by rw [cH y2];rfl
 have f5:w2.cell? ⟨w.heap.size,5,none⟩=some (.slice a m cap):=by rw [cH y2];rfl
 have fz5:w2.frozen? ⟨w.heap.size,5,none⟩=false:=Lib.frozen_of_heap y2 5;have f6:w2.cell? ⟨w.heap.size,6,none⟩=some (.int .i64 tc):=by rw [cH y2];rfl
 have f7:w2.cell? ⟨w.heap.size,7,none⟩=some (.int .i64 tn):=by rw [cH y2];rfl
 have f8:w2.cell? ⟨w.heap.size,8,none⟩=some (.bool on):=by rw [cH y2];rfl
 obtain ⟨⟨d0,d1,d2,d3,d4,d5,d6,d7,d8⟩,dz0,dz1,dz2,dz3,dz4,dz5,dz6,dz7,dz8⟩:=cf9 x2;have sx:(w2.setCell ⟨w.heap.size,5,none⟩ (.slice va m vc)).heap[w.heap.size+1]?=some (Obj.cells #[.int .i64 0,.int .i64 0,.int .i64 0,.int .i64 0,.string ⟨#[]⟩,.slice none 0 0,.int .i64 0,.int .i64 0,.bool false] 44):=(Below.heap_setCell _ _ _ _ (by simp)).trans x2;have sB:=hB2.setCell (p:=⟨w.heap.size,5,none⟩) (lR _) (.slice va m vc);have hx9:=set9g (v0:=.int .i64 c) (v1:=.int .i64 n) (v2:=.int .i64 k) (v3:=.int .i64 p) (v4:=.string s) (v5:=.slice va m vc) (v6:=.int .i64 tc) (v7:=.int .i64 tn) (v8:=.bool on) sx;have hq8:=q9 sB (b:=w.heap.size+1) (by omega) (.int .i64 c) (.int .i64 n) (.int .i64 k) (.int .i64 p) (.string s) (.slice va m vc) (.int .i64 tc) (.int .i64 tn) (.bool on);obtain ⟨w9,hw9⟩:=exW hx9;have HO9:Hid (OwnF rngV 2 76 w9 (w.heap.size+2) (.slice va m vc) l):=by
  show OwnF _ _ _ _ _ _ _;rw [← hw9];refine own_set ?_ _ _ _ (by omega);refine own_set ?_ _ _ _ (by omega);refine own_set ?_ _ _ _ (by omega);refine own_set ?_ _ _ _ (by omega);refine own_set ?_ _ _ _ (by omega);refine own_set ?_ _ _ _ (by omega);refine own_set ?_ _ _ _ (by omega);refine own_set ?_ _ _ _ (by omega);refine own_set ?_ _ _ _ (by omega);refine own_set ?_ _ _ _ (by omega);exact HO.out
 rw [hw9] at hx9 hq8;obtain ⟨r0,r1,r2,r3,r4,r5,r6,r7,r8⟩:=cl9 hx9;clear sx sB;go_wp2_with fail
 try rw [hw9]
 refine bodyPost_ret (v:=.agg #[.int .i64 c,.int .i64 n,.int .i64 k,.int .i64 p,.string s,.slice va m vc,.int .i64 tc,.int .i64 tn,.bool on]) (by simp [results,Tryz.results40,go_sem,r0,r1,r2,r3,r4,r5,r6,r7,r8]) rfl ⟨va,vc,rfl,HO9.out,hq8⟩
theorem inverse_wrong {c n k p:Int} {s:ByteArray} {l:List (Int×Int)} {tc tn:Int} {on:Bool} {w:World} {a:Option Addr} {m cap:Nat} (h:Rng w a m cap l) (hm:m≤1000000000) (hs:s.size≤9223372036854775807) (hw:Bar w) (hok:ownP ⟨c,n,k,p,s,l,tc,tn,on⟩≠0) :
  Calls Tryz.prog 41 #[opVal ⟨c,n,k,p,s,l,tc,tn,on⟩ (.slice a m cap)] w fun e w'=>e=.returned (.tuple #[opVal zeroOp (.slice none 0 0),.int .i64 (ownP ⟨c,n,k,p,s,l,tc,tn,on⟩)])∧Below w.heap.size w w':=by
 have _hm:=hm;have HO:Hid (∀ w':World,Below w.heap.size w w'→Calls Tryz.prog 52 #[opVal ⟨c,n,k,p,s,l,tc,tn,on⟩ (.slice a m cap)] w' fun e w''=>e=.returned (.int .i64 (ownP ⟨c,n,k,p,s,l,tc,tn,on⟩))∧Below w'.heap.size w' w''):=fun w' hb=>ownError_any (o:=⟨c,n,k,p,s,l,tc,tn,on⟩) (h.below hb) hs (hw.below hb)
 have t1:(ownP ⟨c,n,k,p,s,l,tc,tn,on⟩==0)=false:=nB hok;have t2:decide (ownP ⟨c,n,k,p,s,l,tc,tn,on⟩=0)=false:=decide_eq_false hok;have t3:¬ ownP ⟨c,n,k,p,s,l,tc,tn,on⟩=0:=hok;generalize ownP ⟨c,n,k,p,s,l,tc,tn,on⟩=r at *;clear h hs hw hok;simp only [opVal,zeroOp] at *;have hX:Below w.heap.size w ((w.alloc (Obj.cells #[.int .i64 c,.int .i64 n,.int .i64 k,.int .i64 p,.string s,.slice a m cap,.int .i64 tc,.int .i64 tn,.bool on] 44)).alloc (Obj.cells #[.int .i64 0,.int .i64 0,.int .i64 0,.int .i64 0,.string ⟨#[]⟩,.slice none 0 0,.int .i64 0,.int .i64 0,.bool false] 44)):=((bE w.heap.size w).alloc (lR _) _).alloc (by simp) _;have y0:((w.alloc (Obj.cells #[.int .i64 c,.int .i64 n,.int .i64 k,.int .i64 p,.string s,.slice a m cap,.int .i64 tc,.int .i64 tn,.bool on] 44)).alloc (Obj.cells #[.int .i64 0,.int .i64 0,.int .i64 0,.int .i64 0,.string ⟨#[]⟩,.slice none 0 0,.int .i64 0,.int .i64 0,.bool false] 44)).heap[w.heap.size]?=some (Obj.cells #[.int .i64 c,.int .i64 n,.int .i64 k,.int .i64 p,.string s,.slice a m cap,.int .i64 tc,.int .i64 tn,.bool on] 44):=(Below.heap_alloc _ _ _ (by simp)).trans (alloc_last _ _ _ rfl);have x0:((w.alloc (Obj.cells #[.int .i64 c,.int .i64 n,.int .i64 k,.int .i64 p,.string s,.slice a m cap,.int .i64 tc,.int .i64 tn,.bool on] 44)).alloc (Obj.cells #[.int .i64 0,.int .i64 0,.int .i64 0,.int .i64 0,.string ⟨#[]⟩,.slice none 0 0,.int .i64 0,.int .i64 0,.bool false] 44)).heap[w.heap.size+1]?=some (Obj.cells #[.int .i64 0,.int .i64 0,.int .i64 0,.int .i64 0,.string ⟨#[]⟩,.slice none 0 0,.int .i64 0,.int .i64 0,.bool false] 44):=alloc_last _ _ _ (by simp);have hXs:((w.alloc (Obj.cells #[.int .i64 c,.int .i64 n,.int .i64 k,.int .i64 p,.string s,.slice a m cap,.int .i64 tc,.int .i64 tn,.bool on] 44)).alloc (Obj.cells #[.int .i64 0,.int .i64 0,.int .i64 0,.int .i64 0,.string ⟨#[]⟩,.slice none 0 0,.int .i64 0,.int .i64 0,.bool false] 44)).heap.size=w.heap.size+2:=by simp
 go_enter Tryz.func41,Tryz.ntmps41;go_wp2_with fail;refine (HO.out _ hX).mono ?_;rintro e w1 ⟨rfl,hb1⟩;have hB1:=hX.trans (hb1.mono hX.size);have x1:=(hb1.block _ (gA x0)).trans x0;have y1:=(hb1.block _ (gA y0)).trans y0;have hs1:w.heap.size+2≤w1.heap.size:=by have:=hb1.size;rw [hXs] at this;exact this
 clear hX x0 y0 hb1 hXs;obtain ⟨f0,f1,f2,f3,f4,f5,f6,f7,f8⟩:=cl9 y1;obtain ⟨⟨d0,d1,d2,d3,d4,d5,d6,d7,d8⟩,dz0,dz1,dz2,dz3,dz4,dz5,dz6,dz7,dz8⟩:=cf9 x1;have hx9:=set9g (v0:=.int .i64 0) (v1:=.int .i64 0) (v2:=.int .i64 0) (v3:=.int .i64 0) (v4:=.string ⟨#[]⟩) (v5:=.slice none 0 0) (v6:=.int .i64 0) (v7:=.int .i64 0) (v8:=.bool false) x1;have hq8:=q9 hB1 (b:=w.heap.size+1) (by omega) (.int .i64 0) (.int .i64 0) (.int .i64 0) (.int .i64 0) (.string ⟨#[]⟩) (.slice none 0 0) (.int .i64 0) (.int .i64 0) (.bool false);obtain ⟨w9,hw9⟩:=exW hx9;rw [hw9] at hx9 hq8;obtain ⟨r0,r1,r2,r3,r4,r5,r6,r7,r8⟩:=cl9 hx9;go_wp2_with fail
 try rw [hw9]
 refine bodyPost_ret (v:=.tuple #[.agg #[.int .i64 0,.int .i64 0,.int .i64 0,.int .i64 0,.string ⟨#[]⟩,.slice none 0 0,.int .i64 0,.int .i64 0,.bool false],.int .i64 r]) (by simp [results,Tryz.results41,go_sem,r0,r1,r2,r3,r4,r5,r6,r7,r8]) rfl ⟨rfl,hq8⟩
theorem inverse_4 {c n p:Int} {s:ByteArray} {l:List (Int×Int)} {tc tn:Int} {on:Bool} {w:World} {a:Option Addr} {m cap:Nat} (h:Rng w a m cap l) (hm:m≤1000000000) (hs:s.size≤9223372036854775807) (hw:Bar w) (hok:ownP ⟨c,n,4,p,s,l,tc,tn,on⟩=0) :
  Calls Tryz.prog 41 #[opVal ⟨c,n,4,p,s,l,tc,tn,on⟩ (.slice a m cap)] w fun e w'=>e=.returned (.tuple #[opVal ⟨0,0,4,0,⟨#[]⟩,[],tc,tn,!on⟩ (.slice none 0 0),.int .i64 0])∧Below w.heap.size w w':=by
 have _hm:=hm;have HO:Hid (∀ w':World,Below w.heap.size w w'→Calls Tryz.prog 52 #[opVal ⟨c,n,4,p,s,l,tc,tn,on⟩ (.slice a m cap)] w' fun e w''=>e=.returned (.int .i64 (ownP ⟨c,n,4,p,s,l,tc,tn,on⟩))∧Below w'.heap.size w' w''):=fun w' hb=>ownError_any (o:=⟨c,n,4,p,s,l,tc,tn,on⟩) (h.below hb) hs (hw.below hb)
 rw [hok] at HO;clear h hs hw hok;simp only [opVal] at *;have hX:Below w.heap.size w ((w.alloc (Obj.cells #[.int .i64 c,.int .i64 n,.int .i64 4,.int .i64 p,.string s,.slice a m cap,.int .i64 tc,.int .i64 tn,.bool on] 44)).alloc (Obj.cells #[.int .i64 0,.int .i64 0,.int .i64 0,.int .i64 0,.string ⟨#[]⟩,.slice none 0 0,.int .i64 0,.int .i64 0,.bool false] 44)):=((bE w.heap.size w).alloc (lR _) _).alloc (by simp) _;have y0:((w.alloc (Obj.cells #[.int .i64 c,.int .i64 n,.int .i64 4,.int .i64 p,.string s,.slice a m cap,.int .i64 tc,.int .i64 tn,.bool on] 44)).alloc (Obj.cells #[.int .i64 0,.int .i64 0,.int .i64 0,.int .i64 0,.string ⟨#[]⟩,.slice none 0 0,.int .i64 0,.int .i64 0,.bool false] 44)).heap[w.heap.size]?=some (Obj.cells #[.int .i64 c,.int .i64 n,.int .i64 4,.int .i64 p,.string s,.slice a m cap,.int .i64 tc,.int .i64 tn,.bool on] 44):=(Below.heap_alloc _ _ _ (by simp)).trans (alloc_last _ _ _ rfl);have x0:((w.alloc (Obj.cells #[.int .i64 c,.int .i64 n,.int .i64 4,.int .i64 p,.string s,.slice a m cap,.int .i64 tc,.int .i64 tn,.bool on] 44)).alloc (Obj.cells #[.int .i64 0,.int .i64 0,.int .i64 0,.int .i64 0,.string ⟨#[]⟩,.slice none 0 0,.int .i64 0,.int .i64 0,.bool false] 44)).heap[w.heap.size+1]?=some (Obj.cells #[.int .i64 0,.int .i64 0,.int .i64 0,.int .i64 0,.string ⟨#[]⟩,.slice none 0 0,.int .i64 0,.int .i64 0,.bool false] 44):=alloc_last _ _ _ (by simp);have hXs:((w.alloc (Obj.cells #[.int .i64 c,.int .i64 n,.int .i64 4,.int .i64 p,.string s,.slice a m cap,.int .i64 tc,.int .i64 tn,.bool on] 44)).alloc (Obj.cells #[.int .i64 0,.int .i64 0,.int .i64 0,.int .i64 0,.string ⟨#[]⟩,.slice none 0 0,.int .i64 0,.int .i64 0,.bool false] 44)).heap.size=w.heap.size+2:=by simp
 go_enter Tryz.func41,Tryz.ntmps41;go_wp2_with fail;refine (HO.out _ hX).mono ?_;rintro e w1 ⟨rfl,hb1⟩;have hB1:=hX.trans (hb1.mono hX.size);have x1:=(hb1.block _ (gA x0)).trans x0;have y1:=(hb1.block _ (gA y0)).trans y0;have hs1:w.heap.size+2≤w1.heap.size:=by have:=hb1.size;rw [hXs] at this;exact this
 clear hX x0 y0 hb1 hXs;obtain ⟨f0,f1,f2,f3,f4,f5,f6,f7,f8⟩:=cl9 y1;obtain ⟨⟨d0,d1,d2,d3,d4,d5,d6,d7,d8⟩,dz0,dz1,dz2,dz3,dz4,dz5,dz6,dz7,dz8⟩:=cf9 x1;have hx9:=set9g (v0:=.int .i64 0) (v1:=.int .i64 0) (v2:=.int .i64 4) (v3:=.int .i64 0) (v4:=.string ⟨#[]⟩) (v5:=.slice none 0 0) (v6:=.int .i64 tc) (v7:=.int .i64 tn) (v8:=.bool (!on)) x1;have hq8:=q9 hB1 (b:=w.heap.size+1) (by omega) (.int .i64 0) (.int .i64 0) (.int .i64 4) (.int .i64 0) (.string ⟨#[]⟩) (.slice none 0 0) (.int .i64 tc) (.int .i64 tn) (.bool (!on));obtain ⟨w9,hw9⟩:=exW hx9;rw [hw9] at hx9 hq8;obtain ⟨r0,r1,r2,r3,r4,r5,r6,r7,r8⟩:=cl9 hx9;go_wp2_with fail
 try rw [hw9]
 refine bodyPost_ret (v:=.tuple #[.agg #[.int .i64 0,.int .i64 0,.int .i64 4,.int .i64 0,.string ⟨#[]⟩,.slice none 0 0,.int .i64 tc,.int .i64 tn,.bool (!on)],.int .i64 0]) (by simp [results,Tryz.results41,go_sem,r0,r1,r2,r3,r4,r5,r6,r7,r8]) rfl ⟨rfl,hq8⟩
end Go.Proofs.YtijpfbcippijoaaGreatDoor
