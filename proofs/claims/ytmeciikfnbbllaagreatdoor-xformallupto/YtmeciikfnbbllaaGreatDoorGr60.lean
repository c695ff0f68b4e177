import Derived.Test.YtmeciikfnbbllaaGreatDoorAl
import Derived.Test.YtmeciikfnbbllaaGreatDoorGr74
import Derived.Test.YtmeciikfnbbllaaGreatDoorGr59
import Derived.Test.YtmeciikfnbbllaaGreatDoorGr63
import Derived.Deep.RegionHeld3
set_option maxHeartbeats 8000000
set_option maxRecDepth 100000
namespace Go.Proofs.YtmeciikfnbbllaaGreatDoor
open Go.RowKit Go.Lib Sp
theorem gCheck_any {o:OpV} {total:Int} {w:World} {a:Option Addr} {m cap:Nat} (h:Rng w a m cap o.l) (hs:o.s.size≤2097152) :
  Calls Tryz.prog 85 #[opVal o (.slice a m cap),.int .i64 total] w fun e w'=>e=.returned (.int .i64 (opCheck o total))∧Below w.heap.size w w':=by
 obtain ⟨c,n,k,p,s,l,tc,tn,on⟩:=o;simp only at h hs;have hlen:=h.len;have hroom:=h.room;have hmb:m≤9223372036854775807:=by simp only [maxLen] at hroom;omega
 have hw2:Below w.heap.size w (w.alloc (Obj.cells #[.int .i64 c,.int .i64 n,.int .i64 k,.int .i64 p,.string s,.slice a m cap,.int .i64 tc,.int .i64 tn,.bool on] 33)):=(bE w.heap.size w).alloc (lR _) _;obtain ⟨r,hr⟩:∃ r,opCheck ⟨c,n,k,p,s,l,tc,tn,on⟩ total=r:=⟨_,rfl⟩;rw [hr];simp only [opCheck] at hr;by_cases hT0:total<0
 ·rw [if_pos (.inl hT0)] at hr;subst hr;simp only [opVal];go_enter Tryz.func85,Tryz.ntmps85;go_wp2_with fail;go_ret;exact ⟨rfl,hw2⟩
 by_cases hT1:1048576<total
 ·rw [if_pos (.inr hT1)] at hr;subst hr;simp only [opVal];go_enter Tryz.func85,Tryz.ntmps85;go_wp2_with fail;go_ret;exact ⟨rfl,hw2⟩
 rw [if_neg (by omega)] at hr;have g0:0≤total:=by omega
 have g1:total≤1048576:=by omega
 clear hT0 hT1;by_cases hK0:k<1
 ·rw [if_pos (.inl hK0)] at hr;subst hr;simp only [opVal];go_enter Tryz.func85,Tryz.ntmps85;go_wp2_with fail;go_ret;exact ⟨rfl,hw2⟩
 by_cases hK1:4<k
 ·rw [if_pos (.inr hK1)] at hr;subst hr;simp only [opVal];go_enter Tryz.func85,Tryz.ntmps85;go_wp2_with fail;go_ret;exact ⟨rfl,hw2⟩
 rw [if_neg (by omega)] at hr;have k0:1≤k:=by omega
 have k1:k≤4:=by omega
 clear hK0 hK1;obtain ⟨b,hb⟩:∃ b,isIdP c n=b:=⟨_,rfl⟩;obtain ⟨nn,hnn⟩:∃ nn,decide (c=0∧n=0)=nn:=⟨_,rfl⟩;obtain ⟨ex,hex⟩:∃ ex,extra ⟨c,n,k,p,s,l,tc,tn,on⟩=ex:=⟨_,rfl⟩;obtain ⟨tb,htb⟩:∃ tb,isIdP tc tn=tb:=⟨_,rfl⟩;obtain ⟨x,z,hc⟩:∃ x z,checkL l=(x,z):=⟨_,_,rfl⟩;rw [hex] at hr;have HD:Hid (∀ w':World,Calls Tryz.prog 99 #[.agg #[.int .i64 c,.int .i64 n]] w' fun e w''=>e=.returned (.bool b)∧Below w'.heap.size w' w''):=fun w'=>hb▸gIsID_any c n w'
 have HT:Hid (∀ w':World,Calls Tryz.prog 99 #[.agg #[.int .i64 tc,.int .i64 tn]] w' fun e w''=>e=.returned (.bool tb)∧Below w'.heap.size w' w''):=fun w'=>htb▸gIsID_any tc tn w'
 have HN:Hid (∀ w':World,Calls Tryz.prog 100 #[.agg #[.int .i64 c,.int .i64 n]] w' fun e w''=>e=.returned (.bool nn)∧Below w'.heap.size w' w''):=fun w'=>hnn▸gNone_any c n w'
 have HX:Hid (∀ w':World,Calls Tryz.prog 101 #[.agg #[.int .i64 c,.int .i64 n,.int .i64 k,.int .i64 p,.string s,.slice a m cap,.int .i64 tc,.int .i64 tn,.bool on]] w' fun e w''=>e=.returned (.bool ex)∧Below w'.heap.size w' w''):=fun w'=>hex▸gExtra_any (o:=⟨c,n,k,p,s,l,tc,tn,on⟩) (w:=w') hlen
 have HIN:Hid (∀ w':World,Calls Tryz.prog 102 #[.agg #[.int .i64 c,.int .i64 n,.int .i64 k,.int .i64 p,.string s,.slice a m cap,.int .i64 tc,.int .i64 tn,.bool on],.int .i64 total] w' fun e w''=>e=.returned (.int .i64 (insP ⟨c,n,k,p,s,l,tc,tn,on⟩ total))∧Below w'.heap.size w' w''):=fun w'=>gInsert_any (o:=⟨c,n,k,p,s,l,tc,tn,on⟩) g0 g1 hs w'
 have HRC:Hid (∀ w':World,Below w.heap.size w w'→Calls Tryz.prog 103 #[.slice a m cap] w' fun e w''=>e=.returned (.tuple #[.int .i64 x,.int .i64 z])∧Below w'.heap.size w' w''):=fun w' hbb=>by have q:=Sp.refCheck_any (h.below hbb);rw [hc] at q;exact q
 have CELL:Hid (∀ w':World,Below (w.alloc (Obj.cells #[.int .i64 c,.int .i64 n,.int .i64 k,.int .i64 p,.string s,.slice a m cap,.int .i64 tc,.int .i64 tn,.bool on] 33)).heap.size (w.alloc (Obj.cells #[.int .i64 c,.int .i64 n,.int .i64 k,.int .i64 p,.string s,.slice a m cap,.int .i64 tc,.int .i64 tn,.bool on] 33)) w'→w'.cell? ⟨w.heap.size,0,none⟩=some (.int .i64 c)∧w'.cell? ⟨w.heap.size,1,none⟩=some (.int .i64 n)∧w'.cell? ⟨w.heap.size,2,none⟩=some (.int .i64 k)∧w'.cell? ⟨w.heap.size,3,none⟩=some (.int .i64 p)∧w'.cell? ⟨w.heap.size,4,none⟩=some (.string s)∧w'.cell? ⟨w.heap.size,5,none⟩=some (.slice a m cap)∧w'.cell? ⟨w.heap.size,6,none⟩=some (.int .i64 tc)∧w'.cell? ⟨w.heap.size,7,none⟩=some (.int .i64 tn)∧w'.cell? ⟨w.heap.size,8,none⟩=some (.bool on)):=fun w' hbb=>⟨(hbb.cell (p:=⟨w.heap.size,0,none⟩) (by simp)).trans (cM ..),(hbb.cell (p:=⟨w.heap.size,1,none⟩) (by simp)).trans (cM ..),(hbb.cell (p:=⟨w.heap.size,2,none⟩) (by simp)).trans (cM ..),(hbb.cell (p:=⟨w.heap.size,3,none⟩) (by simp)).trans (cM ..),(hbb.cell (p:=⟨w.heap.size,4,none⟩) (by simp)).trans (cM ..),(hbb.cell (p:=⟨w.heap.size,5,none⟩) (by simp)).trans (cM ..),(hbb.cell (p:=⟨w.heap.size,6,none⟩) (by simp)).trans (cM ..),(hbb.cell (p:=⟨w.heap.size,7,none⟩) (by simp)).trans (cM ..),(hbb.cell (p:=⟨w.heap.size,8,none⟩) (by simp)).trans (cM ..)⟩
 have HS0:Hid (tgtP ⟨c,n,k,p,s,l,tc,tn,on⟩=if tb=false∨(tc=c∧tn=n) then 63 else 0):=by show tgtP ⟨c,n,k,p,s,l,tc,tn,on⟩=_;simp only [tgtP,htb]
 have HS1:Hid (rngP ⟨c,n,k,p,s,l,tc,tn,on⟩ total=if l=[] then 43 else if z≠0 then z else if total<lastHi l then 12 else 0):=by show rngP ⟨c,n,k,p,s,l,tc,tn,on⟩ total=_;simp only [rngP,hc]
 have HQ:Hid (b=true∨(b=false∧nn=true)∨(b=false∧nn=false)):=by show b=true∨_;cases b<;>cases nn<;>simp
 have HR:Hid ((if nn=false∧b=false then 41 else if ex=true then 42 else if k=1 then insP ⟨c,n,k,p,s,l,tc,tn,on⟩ total else if k=4 then tgtP ⟨c,n,k,p,s,l,tc,tn,on⟩ else rngP ⟨c,n,k,p,s,l,tc,tn,on⟩ total)=r):=by
  show _=r;rw [← hr,← hnn,hb];simp only [decide_eq_false_iff_not]
 clear hr hb hnn hex htb hc hs;have HRN:Hid (Rng w a m cap l):=h;clear h;simp only [opVal];go_enter Tryz.func85,Tryz.ntmps85;go_wp2_with fail;refine (HD.out _).mono ?_;rintro e w1 ⟨rfl,hb1⟩;have hW1:=hb1;have hB1:=hw2.trans (hW1.mono hw2.size);obtain ⟨d0,d1,d2,d3,d4,d5,d6,d7,d8⟩:=CELL.out _ hW1;clear hb1 HD;go_wp2_with fail;refine (HN.out _).mono ?_;rintro e w2 ⟨rfl,hb2⟩;have hW2:=hW1.trans (hb2.mono hW1.size);have hB2:=hw2.trans (hW2.mono hw2.size);clear d0 d1 d2 d3 d4 d5 d6 d7 d8 hb2 HN hW1 hB1;obtain ⟨d0,d1,d2,d3,d4,d5,d6,d7,d8⟩:=CELL.out _ hW2;rcases HQ.out with e0|⟨e0,e1⟩|⟨e0,e1⟩
 ·subst e0;rw [if_neg (by simp)] at HR;clear HQ;go_wp2_with fail;refine (HX.out _).mono ?_;rintro e w3 ⟨rfl,hb3⟩;have hW3:=hW2.trans (hb3.mono hW2.size);have hB3:=hw2.trans (hW3.mono hw2.size);clear d0 d1 d2 d3 d4 d5 d6 d7 d8 hb3 HX hW2 hB2;obtain ⟨d0,d1,d2,d3,d4,d5,d6,d7,d8⟩:=CELL.out _ hW3;cases ex with
  | true =>
   have hr:=HR.out;rw [if_pos rfl] at hr;subst hr;clear HR;go_wp2_with fail;go_ret;exact ⟨rfl,hB3⟩
  | false =>
   have hr:=HR.out;rw [if_neg (by simp)] at hr;clear HR;by_cases e1:k=1
   ·rw [if_pos e1] at hr;subst e1 hr;go_wp2_with fail;refine (HIN.out _).mono ?_;rintro e w4 ⟨rfl,hb4⟩;have hW4:=hW3.trans (hb4.mono hW3.size);have hB4:=hw2.trans (hW4.mono hw2.size);clear hb4 hW4 hW3 hB3;go_wp2_with fail;go_ret;exact ⟨rfl,hB4⟩
   ·rw [if_neg e1] at hr;have t1:(k==1)=false:=nB e1;by_cases e4:k=4
    ·rw [if_pos e4,HS0.out] at hr;subst e4;clear e1 HS0;go_wp2_with fail;refine (HT.out _).mono ?_;rintro e w4 ⟨rfl,hb4⟩;have hW4:=hW3.trans (hb4.mono hW3.size);have hB4:=hw2.trans (hW4.mono hw2.size);clear d0 d1 d2 d3 d4 d5 d6 d7 d8 hb4 HT hW3 hB3;obtain ⟨d0,d1,d2,d3,d4,d5,d6,d7,d8⟩:=CELL.out _ hW4;cases tb with
     | false =>
      rw [if_pos (.inl rfl)] at hr;subst hr;go_wp2_with fail;go_ret;exact ⟨rfl,hB4⟩
     | true =>
      by_cases f0:tc=c
      ·subst f0;by_cases f1:tn=n
       ·subst f1;rw [if_pos (.inr ⟨rfl,rfl⟩)] at hr;subst hr;go_wp2_with fail;go_ret;exact ⟨rfl,hB4⟩
       ·rw [if_neg (by simp [f1])] at hr;subst hr;have t2:(tn==n)=false:=nB f1;clear f1;go_wp2_with fail;go_ret;exact ⟨rfl,hB4⟩
      ·rw [if_neg (by simp [f0])] at hr;subst hr;have t2:(tc==c)=false:=nB f0;clear f0;go_wp2_with fail;go_ret;exact ⟨rfl,hB4⟩
    ·rw [if_neg e4,HS1.out] at hr;have t4:(k==4)=false:=nB e4;clear e1 e4 HS1;by_cases hm:m=0
     ·subst hm;rw [if_pos (List.eq_nil_of_length_eq_zero hlen)] at hr;subst hr;clear hlen HRC HRN;go_wp2_with fail;go_ret;exact ⟨rfl,hB3⟩
     ·rw [if_neg (fun e=>hm (by rw [← hlen,e];rfl))] at hr;obtain ⟨i,rfl⟩:∃ i,m=i+1:=⟨m-1,by omega⟩;obtain ⟨g,off,rfl,hg,hc0,hc1⟩:=HRN.out.cells i (by omega);have hlast:lastHi l=(l.getD i (0,0)).2:=by unfold lastHi;rw [hlen];rfl
      rw [hlast] at hr;obtain ⟨hi,hhi⟩:∃ hi,(l.getD i (0,0)).2=hi:=⟨_,rfl⟩;rw [hhi] at hr hc1;clear hhi hlast hc0 hm hlen HRN;have t0:(((i+1:Nat):Int)==0)=false:=nB (by omega);go_wp2_with fail;refine (HRC.out _ hB3).mono ?_;rintro e w4 ⟨rfl,hb4⟩;have hW4:=hW3.trans (hb4.mono hW3.size);have hB4:=hw2.trans (hW4.mono hw2.size);clear d0 d1 d2 d3 d4 d5 d6 d7 d8 hb4 HRC hW3 hB3;obtain ⟨d0,d1,d2,d3,d4,d5,d6,d7,d8⟩:=CELL.out _ hW4;have dh:w4.cell? ⟨g,off+i*2+1,none⟩=some (.int .i64 hi):=(hB4.cell (p:=⟨g,off+i*2+1,none⟩) hg).trans hc1;clear hc1;by_cases hz:z=0
      ·subst hz;rw [if_neg (by simp)] at hr;by_cases ht:total<hi
       ·rw [if_pos ht] at hr;subst hr;go_wp2_with fail;go_ret;exact ⟨rfl,hB4⟩
       ·rw [if_neg ht] at hr;subst hr;go_wp2_with fail;go_ret;exact ⟨rfl,hB4⟩
      ·rw [if_pos hz] at hr;subst hr;have t2:(z==0)=false:=nB hz;clear hz;go_wp2_with fail;go_ret;exact ⟨rfl,hB4⟩
 ·subst e0 e1;rw [if_neg (by simp)] at HR;clear HQ;go_wp2_with fail;refine (HX.out _).mono ?_;rintro e w3 ⟨rfl,hb3⟩;have hW3:=hW2.trans (hb3.mono hW2.size);have hB3:=hw2.trans (hW3.mono hw2.size);clear d0 d1 d2 d3 d4 d5 d6 d7 d8 hb3 HX hW2 hB2;obtain ⟨d0,d1,d2,d3,d4,d5,d6,d7,d8⟩:=CELL.out _ hW3;cases ex with
  | true =>
   have hr:=HR.out;rw [if_pos rfl] at hr;subst hr;clear HR;go_wp2_with fail;go_ret;exact ⟨rfl,hB3⟩
  | false =>
   have hr:=HR.out;rw [if_neg (by simp)] at hr;clear HR;by_cases e1:k=1
   ·rw [if_pos e1] at hr;subst e1 hr;go_wp2_with fail;refine (HIN.out _).mono ?_;rintro e w4 ⟨rfl,hb4⟩;have hW4:=hW3.trans (hb4.mono hW3.size);have hB4:=hw2.trans (hW4.mono hw2.size);clear hb4 hW4 hW3 hB3;go_wp2_with fail;go_ret;exact ⟨rfl,hB4⟩
   ·rw [if_neg e1] at hr;have t1:(k==1)=false:=nB e1;by_cases e4:k=4
    ·rw [if_pos e4,HS0.out] at hr;subst e4;clear e1 HS0;go_wp2_with fail;refine (HT.out _).mono ?_;rintro e w4 ⟨rfl,hb4⟩;have hW4:=hW3.trans (hb4.mono hW3.size);have hB4:=hw2.trans (hW4.mono hw2.size);clear d0 d1 d2 d3 d4 d5 d6 d7 d8 hb4 HT hW3 hB3;obtain ⟨d0,d1,d2,d3,d4,d5,d6,d7,d8⟩:=CELL.out _ hW4;cases tb with
     | false =>
      rw [if_pos (.inl rfl)] at hr;subst hr;go_wp2_with fail;go_ret;exact ⟨rfl,hB4⟩
     | true =>
      by_cases f0:tc=c
      ·subst f0;by_cases f1:tn=n
       ·subst f1;rw [if_pos (.inr ⟨rfl,rfl⟩)] at hr;subst hr;go_wp2_with fail;go_ret;exact ⟨rfl,hB4⟩
       ·rw [if_neg (by simp [f1])] at hr;subst hr;have t2:(tn==n)=false:=nB f1;clear f1;go_wp2_with fail;go_ret;exact ⟨rfl,hB4⟩
      ·rw [if_neg (by simp [f0])] at hr;subst hr;have t2:(tc==c)=false:=nB f0;clear f0;go_wp2_with fail;go_ret;exact ⟨rfl,hB4⟩
    ·rw [if_neg e4,HS1.out] at hr;have t4:(k==4)=false:=nB e4;clear e1 e4 HS1;by_cases hm:m=0
     ·subst hm;rw [if_pos (List.eq_nil_of_length_eq_zero hlen)] at hr;subst hr;clear hlen HRC HRN;go_wp2_with fail;go_ret;exact ⟨rfl,hB3⟩
     ·rw [if_neg (fun e=>hm (by rw [← hlen,e];rfl))] at hr;obtain ⟨i,rfl⟩:∃ i,m=i+1:=⟨m-1,by omega⟩;obtain ⟨g,off,rfl,hg,hc0,hc1⟩:=HRN.out.cells i (by omega);have hlast:lastHi l=(l.getD i (0,0)).2:=by unfold lastHi;rw [hlen];rfl
      rw [hlast] at hr;obtain ⟨hi,hhi⟩:∃ hi,(l.getD i (0,0)).2=hi:=⟨_,rfl⟩;rw [hhi] at hr hc1;clear hhi hlast hc0 hm hlen HRN;have t0:(((i+1:Nat):Int)==0)=false:=nB (by omega);go_wp2_with fail;refine (HRC.out _ hB3).mono ?_;rintro e w4 ⟨rfl,hb4⟩;have hW4:=hW3.trans (hb4.mono hW3.size);have hB4:=hw2.trans (hW4.mono hw2.size);clear d0 d1 d2 d3 d4 d5 d6 d7 d8 hb4 HRC hW3 hB3;obtain ⟨d0,d1,d2,d3,d4,d5,d6,d7,d8⟩:=CELL.out _ hW4;have dh:w4.cell? ⟨g,off+i*2+1,none⟩=some (.int .i64 hi):=(hB4.cell (p:=⟨g,off+i*2+1,none⟩) hg).trans hc1;clear hc1;by_cases hz:z=0
      ·subst hz;rw [if_neg (by simp)] at hr;by_cases ht:total<hi
       ·rw [if_pos ht] at hr;subst hr;go_wp2_with fail;go_ret;exact ⟨rfl,hB4⟩
       ·rw [if_neg ht] at hr;subst hr;go_wp2_with fail;go_ret;exact ⟨rfl,hB4⟩
      ·rw [if_pos hz] at hr;subst hr;have t2:(z==0)=false:=nB hz;clear hz;go_wp2_with fail;go_ret;exact ⟨rfl,hB4⟩
 ·subst e0 e1;have hr:=HR.out;rw [if_pos ⟨rfl,rfl⟩] at hr;subst hr;clear HR HQ;go_wp2_with fail;go_ret;exact ⟨rfl,hB2⟩
theorem gOwn_any {o:OpV} {w:World} {a:Option Addr} {m cap:Nat} (h:Rng w a m cap o.l) (hs:o.s.size≤2097152) :
  Calls Tryz.prog 61 #[opVal o (.slice a m cap)] w fun e w'=>e=.returned (.int .i64 (ownP o))∧Below w.heap.size w w':=by
 obtain ⟨c,n,k,p,s,l,tc,tn,on⟩:=o;simp only at h hs;have hw2:Below w.heap.size w (w.alloc (Obj.cells #[.int .i64 c,.int .i64 n,.int .i64 k,.int .i64 p,.string s,.slice a m cap,.int .i64 tc,.int .i64 tn,.bool on] 33)):=(bE w.heap.size w).alloc (lR _) _;have HC:Hid (∀ t:Int,∀ w':World,Below w.heap.size w w'→Calls Tryz.prog 85 #[.agg #[.int .i64 c,.int .i64 n,.int .i64 k,.int .i64 p,.string s,.slice a m cap,.int .i64 tc,.int .i64 tn,.bool on],.int .i64 t] w' fun e w''=>e=.returned (.int .i64 (opCheck ⟨c,n,k,p,s,l,tc,tn,on⟩ t))∧Below w'.heap.size w' w''):=fun t w' hb=>gCheck_any (o:=⟨c,n,k,p,s,l,tc,tn,on⟩) (h.below hb) hs
 clear h hs;obtain ⟨r,hr⟩:∃ r,ownP ⟨c,n,k,p,s,l,tc,tn,on⟩=r:=⟨_,rfl⟩;rw [hr];simp only [ownP] at hr;simp only [opVal];by_cases e1:k=1
 ·subst e1;by_cases e2:0≤p
  ·by_cases e3:p≤1048576
   ·rw [if_pos ⟨rfl,e2,e3⟩] at hr;subst hr;go_enter Tryz.func61,Tryz.ntmps61;go_wp2_with fail;refine (HC.out _ _ hw2).mono ?_;rintro e w1 ⟨rfl,hb1⟩;have hB:=hw2.trans (hb1.mono hw2.size);clear hw2 hb1 HC;go_wp2_with fail;go_ret;exact ⟨rfl,hB⟩
   ·rw [if_neg (fun hh=>e3 hh.2.2)] at hr;subst hr;have t3:decide (p≤1048576)=false:=decide_eq_false e3;clear e3;go_enter Tryz.func61,Tryz.ntmps61;go_wp2_with fail;refine (HC.out _ _ hw2).mono ?_;rintro e w1 ⟨rfl,hb1⟩;have hB:=hw2.trans (hb1.mono hw2.size);clear hw2 hb1 HC;go_wp2_with fail;go_ret;exact ⟨rfl,hB⟩
  ·rw [if_neg (fun hh=>e2 hh.2.1)] at hr;subst hr;have t3:decide (0≤p)=false:=decide_eq_false e2;clear e2;go_enter Tryz.func61,Tryz.ntmps61;go_wp2_with fail;refine (HC.out _ _ hw2).mono ?_;rintro e w1 ⟨rfl,hb1⟩;have hB:=hw2.trans (hb1.mono hw2.size);clear hw2 hb1 HC;go_wp2_with fail;go_ret;exact ⟨rfl,hB⟩
 ·rw [if_neg (fun hh=>e1 hh.1)] at hr;subst hr;have t1:(k==1)=false:=nB e1;clear e1;go_enter Tryz.func61,Tryz.ntmps61;go_wp2_with fail;refine (HC.out _ _ hw2).mono ?_;rintro e w1 ⟨rfl,hb1⟩;have hB:=hw2.trans (hb1.mono hw2.size);clear hw2 hb1 HC;go_wp2_with fail;go_ret;exact ⟨rfl,hB⟩
end Go.Proofs.YtmeciikfnbbllaaGreatDoor
namespace Go.Proofs.YtmeciikfnbbllaaGreatDoor
open Go.RowKit Go.Lib
theorem takeD {P:Program} {md:Region.Mode} {ops:Array Oper} {Q:Exit→Act→World→Prop} {S:World→Prop} {i:Nat} {oi:Oper} {d:Option Nat} {v:Value} {fuel:Nat} {listed:Array Bool} {a:Act} {w:World} (hi:ops[i]?=some oi) (hd:oi.dst=d)
  (hs:Region.noSelect ops=true) (hf:Region.free md ops listed i=true) (hr:(Region.ready md ops listed).contains i=true)
  (hQ:∀ c a w,Q (.panic c) (a.put oi.dst v) w→Q (.panic c) a w) (hy:YieldsIf P ops S oi v a) (hS:S w)
  (h:wpAnyH P md ops Q S fuel (listed.setIfInBounds i true) (a.put d v) w):wpAnyH P md ops Q S (fuel+1) listed a w:=by
 subst hd;exact wpAnyH_take hi hs hf hr hQ hy hS h
theorem ctx_ok:SthOk ctxL:=fun s hs=>by
 simp only [ctxL,List.mem_singleton] at hs;subst hs;simp
def ctxI (p n:Int):List Sth:=withL 2 p n ctxL 0
theorem ctxI_eq {p n:Int} (h0:0≤p) (h1:p≤1048576):ctxI p n=(if 0<p then [(0,0,p)] else [])++[(2,0,n),(0,p,2097152)]:=by
 unfold ctxI ctxL withL withL withOne;rw [if_pos ⟨h0,by simp only [wid];omega⟩];simp
theorem ctxI_ok {p n:Int} (h0:0≤p) (h1:p≤1048576) (h2:0≤n) (h3:n≤4194304):SthOk (ctxI p n):=fun s hs=>by
 rw [ctxI_eq h0 h1] at hs;split at hs<;>simp at hs<;>rcases hs with rfl|rfl|rfl<;>simp<;>omega
theorem ctxI_len {p n:Int} (h0:0≤p) (h1:p≤1048576):(ctxI p n).length≤3:=by
 rw [ctxI_eq h0 h1];split<;>simp
theorem place_ctx {p n k:Int} (h0:0≤p) (h1:p≤1048576) (hk:0≤k) (hk2:k<2097152):placeL 0 k (ctxI p n) 0=if k<p then k else k+n:=by
 rw [ctxI_eq h0 h1];by_cases hp:0<p
 ·rw [if_pos hp];simp only [List.cons_append,List.nil_append,placeL];by_cases h:k<p
  ·rw [if_pos ⟨trivial,hk,h⟩,if_pos h];omega
  ·rw [if_neg (fun hh=>h hh.2.2),if_neg (fun hh=>absurd hh.1 (by decide)),if_pos ⟨trivial,by omega,hk2⟩,if_neg h];omega
 ·rw [if_neg hp];simp only [List.nil_append,placeL];rw [if_neg (fun hh=>absurd hh.1 (by decide)),if_pos ⟨trivial,by omega,hk2⟩,if_neg (by omega)];omega
theorem place_ins {p n:Int} (h0:0≤p) (h1:p≤1048576) (hn:0<n):placeL 2 0 (ctxI p n) 0=p:=by
 rw [ctxI_eq h0 h1];by_cases hp:0<p
 ·rw [if_pos hp];simp only [List.cons_append,List.nil_append,placeL];rw [if_neg (fun hh=>absurd hh.1 (by decide)),if_pos ⟨trivial,by omega,hn⟩];omega
 ·rw [if_neg hp];simp only [List.nil_append,placeL];rw [if_pos ⟨trivial,by omega,hn⟩];omega
theorem gCaret_any {o:OpV} {x:Int} {a:Option Addr} {m cap:Nat} {w:World} (hR:Sp.Rng w a m cap o.l) (hs:o.s.size≤2097152) :
  Calls Tryz.prog 33 #[.int .i64 x,opVal o (.slice a m cap)] w fun e w'=>e=.returned (.tuple #[.int .i64 (caretP x o).1,.int .i64 (caretP x o).2])∧Below w.heap.size w w':=by
 have HE:Hid (∀ (W:World),Below w.heap.size w W→Calls Tryz.prog 61 #[opVal o (.slice a m cap)] W fun e w'=>e=.returned (.int .i64 (ownP o))∧Below W.heap.size W w'):=fun W hb=>gOwn_any (hR.below hb) hs
 have HW:Hid (∀ (W:World),Calls Tryz.prog 64 #[opVal o (.slice a m cap)] W fun e w'=>e=.returned (.int .i64 (widthP o))∧Below W.heap.size W w'):=fun W=>gWidth_any hs W
 have hwd:ownP o=0→0≤widthP o∧widthP o≤256:=fun h=>(right_of h).wd
 have hpp:ownP o=0→o.k=1→0≤o.p∧o.p≤1048576:=fun h hk=>⟨((right_of h).ins hk).1,((right_of h).ins hk).2.1⟩
 obtain ⟨q,hq⟩:∃ q,caretP x o=q:=⟨_,rfl⟩;rw [hq];unfold caretP at hq;generalize ownP o=z at *;generalize widthP o=wd at *;clear hR hs;obtain ⟨c,n,k,p,s,l,tc,tn,on⟩:=o;simp only [opVal] at *;obtain ⟨W0,hW0⟩:∃ W0,w.alloc (Obj.cells #[.int .i64 c,.int .i64 n,.int .i64 k,.int .i64 p,.string s,.slice a m cap,.int .i64 tc,.int .i64 tn,.bool on] 33)=W0:=⟨_,rfl⟩;have hX:W0.heap[w.heap.size]?=some (Obj.cells #[.int .i64 c,.int .i64 n,.int .i64 k,.int .i64 p,.string s,.slice a m cap,.int .i64 tc,.int .i64 tn,.bool on] 33):=by rw [← hW0];exact heap_alloc_new _ _
 have hB0:Below w.heap.size w W0:=by rw [← hW0];exact (bE w.heap.size w).alloc (lR _) _
 have alt:w.heap.size<W0.heap.size:=(gA hX);obtain ⟨ak0,ak1,ak2,ak3,ak4,ak5,ak6,ak7,ak8⟩:=box9 hX;go_enter Tryz.func33,Tryz.ntmps33;go_wp2_with fail;refine (HE.out W0 hB0).mono ?_;rintro e w1 ⟨rfl,hcur⟩;have hB1:=hB0.trans (hcur.mono hB0.size);have hX1:=(hcur.block _ alt).trans hX;have alt1:w.heap.size<w1.heap.size:=(gA hX1);clear HE hcur hX hB0 alt hW0 ak0 ak1 ak2 ak3 ak4 ak5 ak6 ak7 ak8;obtain ⟨ak0,ak1,ak2,ak3,ak4,ak5,ak6,ak7,ak8⟩:=box9 hX1;by_cases hz:z=0
 ·subst hz;rw [if_neg (by simp)] at hq;obtain ⟨hw0,hw1⟩:=hwd rfl;have hpp:=hpp rfl;clear hwd;by_cases h1:x<0
  ·rw [if_pos (.inl h1)] at hq;subst hq;go_wp2_with fail;go_ret2;exact ⟨rfl,hB1⟩
  ·have t1:decide (x<0)=false:=decide_eq_false h1;by_cases h2:1048576<x
   ·rw [if_pos (.inr h2)] at hq;subst hq;go_wp2_with fail;go_ret2;exact ⟨rfl,hB1⟩
   ·rw [if_neg (by omega)] at hq;have t2:decide (1048576<x)=false:=decide_eq_false h2;by_cases hk:k=1
    ·subst hk;obtain ⟨p0,p1⟩:=hpp rfl;by_cases h0:x=0
     ·subst h0;rw [if_pos (.inr p0)] at hq;subst hq;go_wp2_with fail;go_ret2;exact ⟨rfl,hB1⟩
     ·have t0:(x==0)=false:=nB h0;have t00:decide (x=0)=false:=decide_eq_false h0;have ex:IntKind.i64.wrap (x-1)=x-1:=IntWalk.i64_in _ (by omega);have hpl:=place_ctx (n:=wd) p0 p1 (k:=x-1) (by omega) (by omega);obtain ⟨y,hy⟩:∃ y,placeL 0 (x-1) (ctxI p wd) 0=y:=⟨_,rfl⟩;have hy0:y=if x-1<p then x-1 else x-1+wd:=by rw [← hy];exact hpl
      have hlen:=ctxI_len (n:=wd) p0 p1;have hok:=ctxI_ok p0 p1 hw0 (by omega:wd≤4194304);have HP:Hid (∀ (W:World) va vc,Rw sthF 3 W va (ctxI p wd).length vc (ctxI p wd)→Calls Tryz.prog 65 #[.slice va (ctxI p wd).length vc,.int .i64 0,.int .i64 (x-1)] W fun e w'=>e=.returned (.int .i64 y)∧Below W.heap.size W w'):=fun W va vc hr=>by
       have:=place_any hr (by omega) hok 0 (x-1) (by omega);rw [hy] at this;exact this
      have hyb:0≤y∧y≤1048832:=by rw [hy0];split<;>omega
      have hq2:q=if 1048576<y+1 then (0,24) else (y+1,0):=by
       rw [← hq];by_cases hxp:x≤p
       ·have e:y=x-1:=by rw [hy0,if_pos (by omega)]
        rw [if_pos (.inr hxp),e,if_neg (by omega),show x-1+1=x by omega]
       ·have e:y=x-1+wd:=by rw [hy0,if_neg (by omega)]
        rw [if_neg (by omega),e,show x-1+wd+1=x+wd by omega]
      clear hq hpl hy0 hy hok hpp;obtain ⟨nr,hnr⟩:∃ nr,(ctxI p wd).length=nr:=⟨_,rfl⟩;have ey:IntKind.i64.wrap (y+1)=y+1:=IntWalk.i64_in _ (by omega);go_wp2_with fail;refine wp_region_held_drew (S:=(fun W=>W.cell? ⟨w.heap.size,0,none⟩=some (.int .i64 c)∧W.cell? ⟨w.heap.size,1,none⟩=some (.int .i64 n)∧W.cell? ⟨w.heap.size,2,none⟩=some (.int .i64 1)∧W.cell? ⟨w.heap.size,3,none⟩=some (.int .i64 p)∧W.cell? ⟨w.heap.size,4,none⟩=some (.string s)∧W.cell? ⟨w.heap.size,5,none⟩=some (.slice a m cap)∧W.cell? ⟨w.heap.size,6,none⟩=some (.int .i64 tc)∧W.cell? ⟨w.heap.size,7,none⟩=some (.int .i64 tn)∧W.cell? ⟨w.heap.size,8,none⟩=some (.bool on))) (by kernel_rfl) ?hS1 (fun hHeld=>?rest1)
      case hS1=>exact box9 hX1
      refine tD 1 (some 30) ?_
      try simp only [putS]
      refine tD 2 (some 31) ?_
      try simp only [putS]
      refine tD 3 (some 32) ?_
      try simp only [putS]
      refine wpAnyH_ready (rs:=[0]) (by kernel_rfl) (by simp) ?_;refine AllReadyH.cons rfl (fun K hK=>?_) AllReadyH.nil;go_simp;refine (context_any _).mono ?_;rintro e w2 ⟨ca,cc,rfl,hrow,hb2⟩;have hb2:Below w1.heap.size w1 w2:=(below_drewN (bE _ _) 1).trans hb2;have hX2:=(hb2.block _ alt1).trans hX1;clear hHeld;refine hK.out _ _ ?hS5 (fun hHeld=>?rest5)
      case hS5=>exact box9 hX2
      clear hK K
      try simp only [putS]
      refine wpAnyH_ready (rs:=[4]) (by kernel_rfl) (by simp) ?_;refine AllReadyH.cons rfl (fun K hK=>?_) AllReadyH.nil;go_simp;refine (HW.out _).mono ?_;rintro e w3 ⟨rfl,hb3⟩;have hrow3:=hrow.below hb3;have hb13:=hb2.trans (hb3.mono hb2.size);have hX3:=(hb13.block _ alt1).trans hX1;clear hHeld;refine hK.out _ _ ?hS6 (fun hHeld=>?rest6)
      case hS6=>exact box9 hX3
      clear hK K
      try simp only [putS]
      refine wpAnyH_ready (rs:=[5]) (by kernel_rfl) (by simp) ?_;refine AllReadyH.cons rfl (fun K hK=>?_) AllReadyH.nil;go_simp;refine (with_any hrow3 (by omega) ctx_ok 2 p wd (by omega)).mono ?_;rintro e w4 ⟨va,vc,rfl,ho4,hb4⟩;have hb14:=hb13.trans (hb4.mono hb13.size);have hX4:=(hb14.block _ alt1).trans hX1;clear hHeld;refine hK.out _ _ ?hS7 (fun hHeld=>?rest7)
      case hS7=>exact box9 hX4
      clear hK K
      try simp only [putS]
      refine tD 6 (some 7) ?_
      try simp only [putS]
      refine wpAnyH_done (by kernel_rfl) ?_ _;have hrow4:=ho4.rw_ layH;clear ho4 hrow hrow3 hb2 hb3 hb4 hb13 hHeld ak0 ak1 ak2 ak3 ak4 ak5 ak6 ak7 ak8;have hB4:=hB1.trans (hb14.mono hB1.size);go_wp2_with fail;refine (HP.out _ _ _ hrow4).mono ?_;rintro e w5 ⟨rfl,hb5⟩;have hB5:=hB4.trans (hb5.mono hB4.size);clear hb5 HP HW hrow4 hb14 hB4;by_cases hg:1048576<y+1
      ·rw [if_pos hg] at hq2;subst hq2;go_wp2_with fail;go_ret2;exact ⟨rfl,hB5⟩
      ·rw [if_neg hg] at hq2;subst hq2;have t4:decide (1048576<y+1)=false:=decide_eq_false hg;go_wp2_with fail;go_ret2;exact ⟨rfl,hB5⟩
    ·rw [if_pos (.inl hk)] at hq;subst hq;have t3:(k==1)=false:=nB hk;have t4:decide (k=1)=false:=decide_eq_false hk;go_wp2_with fail;go_ret2;exact ⟨rfl,hB1⟩
 ·rw [if_pos hz] at hq;subst hq;have t3:(z==0)=false:=nB hz;have t4:decide (z=0)=false:=decide_eq_false hz;go_wp2_with fail;go_ret2;exact ⟨rfl,hB1⟩
end Go.Proofs.YtmeciikfnbbllaaGreatDoor
