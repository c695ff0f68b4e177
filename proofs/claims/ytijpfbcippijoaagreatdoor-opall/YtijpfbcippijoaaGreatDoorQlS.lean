import Derived.Test.YtijpfbcippijoaaGreatDoorGr134
import Derived.Test.YtijpfbcippijoaaGreatDoorGr117
import Derived.Test.YtijpfbcippijoaaGreatDoorQkG
import Derived.Test.YtijpfbcippijoaaGreatDoorGr128
namespace Go.Proofs.YtijpfbcippijoaaGreatDoor
open Go.RowKit Go.Lib
set_option maxRecDepth 100000
set_option maxHeartbeats 16000000 in
theorem kinds19_any {w:World} {aC:Option Addr} {nC cC:Nat} {zs:List (Int×Int)} (hC:Rw cellV 2 w aC nC cC zs) {aS:Option Addr} {nS cS:Nat} {L:List StepV} (hS:Rw stepF 21 w aS nS cS L) (hok:∀ x∈L,StepOk3 w x) (hTab:Tabq w) :
  Calls Tryz.prog 5 #[.agg #[.slice aC nC cC,.slice aS nS cS],.int .i64 1,.int .i64 9] w fun e w'=>e=.returned (.bool true)∧Below w.heap.size w w':=by
 go_enter Tryz.func5,Tryz.ntmps5
 go_wp2_with fail
 generalize hWB:w.alloc (Obj.cells #[.slice aC nC cC,.slice aS nS cS] 25)=WB
 have hB0:Below w.heap.size w WB:=hWB▸(Below.refl w.heap.size w).alloc (Nat.le_refl _) _
 have hbp:WB.heap[w.heap.size]?=some (.cells #[.slice aC nC cC,.slice aS nS cS] 25):=hWB▸alloc_last _ _ _ rfl
 clear hWB
 refine (opFixed_any WB (hTab.below hB0).bar (hTab.below hB0).pow (hTab.below hB0).deb).mono ?_
 rintro e wf ⟨rfl,hbf⟩
 have hBf:Below w.heap.size w wf:=hB0.trans (hbf.mono hB0.size)
 have hbpf:=(hbf.block _ (Array.getElem?_eq_some_iff.1 hbp).1).trans hbp
 have hCf:=hC.below hBf
 clear hC hbf hbp hB0
 have pf0:wf.cell? ⟨w.heap.size,0,none⟩=some (.slice aC nC cC):=by rw [Lib.cell_of_heap hbpf];rfl
 go_wp2_with fail
 refine (made_any hCf).mono ?_
 rintro e w0 ⟨v1,rfl,ho1,hb1⟩
 obtain ⟨a1,c1,rfl⟩:=ho1.shape
 have HR:=runsW_any (ho1.rw_ layC) (Nat.le_trans (madeP_len zs) (by decide)) (madeP_ok zs) (madeP_cnt zs)
 have HMI:Hid (RowIn (madeP zs)):=⟨madeP_ok zs,madeP_cnt zs,Nat.le_trans (madeP_len zs) (by decide)⟩
 have hRw0:=ho1.rw_ layC
 have hB1:Below w.heap.size w w0:=hBf.trans (hb1.mono hBf.size)
 have hbp1:=(hb1.block _ (Array.getElem?_eq_some_iff.1 hbpf).1).trans hbpf
 clear ho1 hb1 hbpf hBf hCf pf0
 generalize madeP zs=M at *
 go_wp2_with fail
 refine HR.mono ?_
 rintro e w2 ⟨v2,L2,rfl,ho2,hF,hcl,hb2⟩
 obtain ⟨a2,c2,rfl⟩:=ho2.shape
 have hB2:Below w.heap.size w w2:=hB1.trans (hb2.mono hB1.size)
 have hbp2:=(hb2.block _ (Array.getElem?_eq_some_iff.1 hbp1).1).trans hbp1
 have HFR:=from_any (ho2.rw_ layR) hF (hTab.bar.below hB2)
 have HRW:Hid (Rw cellV 2 w2 a1 M.length c1 M):=hRw0.below hb2
 have HLA:Hid (∀ W q,(∃ t ts,RopeAt W q t∧Built ts t∧Parts L2 ts)→Below w2.heap.size w2 W→Holds w2 q M W):=fun W q ⟨t,ts,k1,k2,k3⟩ hb=>by
  obtain ⟨e1,e2⟩:=from_rp hF k2 k3
  exact ⟨t,k1,e2,e1.trans hcl,hb⟩
 have HB2:Hid (Below w.heap.size w w2):=hB2
 have HBAR:Hid (Bar w2):=hTab.bar.below hB2
 have HTB:Hid (Tabq w2):=hTab.below hB2
 have hs0:=hB2.size
 have hs1:=(Array.getElem?_eq_some_iff.1 hbp2).1
 have HBP:Hid (∀ W,Below w2.heap.size w2 W→W.cell? ⟨w.heap.size,1,none⟩=some (.slice aS nS cS)):=fun W hb=>by
  have:=(hb.block _ hs1).trans hbp2
  rw [Lib.cell_of_heap this]
  rfl
 have HS:Hid (Rw stepF 21 w2 aS nS cS L):=hS.below hB2
 have HOK:Hid (∀ x∈L,StepOk3 w2 x):=fun x hx=>(hok x hx).below hB2
 have hnS:=hS.room
 clear hbp1 hbp2 ho2 hF hcl hb2 hB1 hB2 hS hok hTab HR hRw0
 go_wp2_with fail
 refine HFR.mono ?_
 rintro e w3 ⟨q,t,ts,rfl,hRp,hBt,hPt,hb3,hq3⟩
 have hH0:=HLA.out _ q ⟨t,ts,hRp,hBt,hPt⟩ hb3
 have hRw3:=HRW.out.below hb3
 clear HFR hRp hBt hPt hb3 HLA HRW
 obtain ⟨nM,hnM⟩:∃ nM,M.length=nM:=⟨_,rfl⟩
 rw [hnM] at hRw3 ⊢
 clear hnM
 unfold ptr
 go_wp2_with fail
 go_loopw [8,11] (fun v8 vi W=>∃ (i:Nat) (R:List (Int×Int)) (aR:Option Addr) (nR cR:Nat),vi=.int .i64 (i:Int)∧v8=.slice aR nR cR∧i≤60∧Holds w2 q R W∧RowIn R∧Rw cellV 2 W aR nR cR R) (fun _ vi _=>60-(RowKit.intOf vi).toNat)
 case atStart=>exact ⟨0,M,a1,nM,c1,rfl,rfl,by omega,hH0,HMI.out,hRw3⟩
 case round =>
  clear hH0 hRw3
  obtain ⟨i,R,aR,nR,cR,rfl,rfl,hi60,hHo,hRI,hRw⟩:=hrel
  have hH:=hHo.below
  have p1:=HBP.out _ hH
  by_cases hin:i<nS∧i<60
  ·obtain ⟨hin1,hin2⟩:=hin
   have b1:(i:Int)<(nS:Int):=by omega
   have b2:(i:Int)<60:=by omega
   obtain ⟨g,off,x,rfl,hg,hx,hc⟩:=HS.out.at i hin1
   obtain ⟨⟨⟨hrx,hmx,hsx⟩,hm6,hr2x,hm26,hs2x⟩,hlx⟩:=HOK.out _ (List.mem_of_getElem? hx)
   obtain ⟨K,⟨c,n,k,p,s,l,tc,tn,on⟩,a,m,cap,⟨c2,n2,k2,p2,s2,l2,tc2,tn2,on2⟩,b2,m2,cap2,tot,ln⟩:=x
   simp only at hrx hmx hsx hm6 hr2x hm26 hs2x hlx
   have hrg:wr.rangeAt g (off+i*21) [.int .i64 K,.int .i64 c,.int .i64 n,.int .i64 k,.int .i64 p,.string s,.slice a m cap,.int .i64 tc,.int .i64 tn,.bool on,.int .i64 c2,.int .i64 n2,.int .i64 k2,.int .i64 p2,.string s2,.slice b2 m2 cap2,.int .i64 tc2,.int .i64 tn2,.bool on2,.int .i64 tot,.string ln]:=fun j v hv=>(hH.cell (p:=⟨g,off+i*21+j,none⟩) hg).trans (hc j v hv)
   have h1c:(Array.all (#[.int .i64 K,.int .i64 c,.int .i64 n,.int .i64 k,.int .i64 p,.string s,.slice a m cap,.int .i64 tc,.int .i64 tn,.bool on,.int .i64 c2,.int .i64 n2,.int .i64 k2,.int .i64 p2,.string s2,.slice b2 m2 cap2,.int .i64 tc2,.int .i64 tn2,.bool on2,.int .i64 tot,.string ln]:Array Value) (fun v=>v.oneCell'))=true:=all_oneCell_toArray (layS.one ⟨K,⟨c,n,k,p,s,l,tc,tn,on⟩,a,m,cap,⟨c2,n2,k2,p2,s2,l2,tc2,tn2,on2⟩,b2,m2,cap2,tot,ln⟩)
   have HRG:Hid (wr.rangeAt g (off+i*21) [.int .i64 K,.int .i64 c,.int .i64 n,.int .i64 k,.int .i64 p,.string s,.slice a m cap,.int .i64 tc,.int .i64 tn,.bool on,.int .i64 c2,.int .i64 n2,.int .i64 k2,.int .i64 p2,.string s2,.slice b2 m2 cap2,.int .i64 tc2,.int .i64 tn2,.bool on2,.int .i64 tot,.string ln]):=hrg
   have H1C:Hid ((Array.all (#[.int .i64 K,.int .i64 c,.int .i64 n,.int .i64 k,.int .i64 p,.string s,.slice a m cap,.int .i64 tc,.int .i64 tn,.bool on,.int .i64 c2,.int .i64 n2,.int .i64 k2,.int .i64 p2,.string s2,.slice b2 m2 cap2,.int .i64 tc2,.int .i64 tn2,.bool on2,.int .i64 tot,.string ln]:Array Value) (fun v=>v.oneCell'))=true):=h1c
   clear hrg h1c
   have hr0:=hrx.below hH
   have HRX:Hid (Sp.Rng w2 a m cap l):=hrx
   have HR2:Hid (Sp.Rng w2 b2 m2 cap2 l2∧m2≤1048576∧m≤1048576∧ln.size≤1048576):=⟨hr2x,hm26,hm6,hlx⟩
   have HRI:Hid (RowIn R):=hRI
   have HRW:Hid (Rw cellV 2 wr aR nR cR R∧Holds w2 q R wr):=⟨hRw,hHo⟩
   clear hc hx hrx HOK HS hRI hRw hHo hr2x hm26 hs2x hm6 hlx
   go_upto_region 10 with (first|refine wpList_load_mid rfl 46 _ rfl g (off+i*21) rfl [.int .i64 K,.int .i64 c,.int .i64 n,.int .i64 k,.int .i64 p,.string s,.slice a m cap,.int .i64 tc,.int .i64 tn,.bool on,.int .i64 c2,.int .i64 n2,.int .i64 k2,.int .i64 p2,.string s2,.slice b2 m2 cap2,.int .i64 tc2,.int .i64 tn2,.bool on2,.int .i64 tot,.string ln] _ HRG.out Tryz.underlying46 rfl (by kernel_rfl) ?_|(refine wpList_store_row rfl 46 _ _ rfl wr.heap.size #[.int .i64 K,.int .i64 c,.int .i64 n,.int .i64 k,.int .i64 p,.string s,.slice a m cap,.int .i64 tc,.int .i64 tn,.bool on,.int .i64 c2,.int .i64 n2,.int .i64 k2,.int .i64 p2,.string s2,.slice b2 m2 cap2,.int .i64 tc2,.int .i64 tn2,.bool on2,.int .i64 tot,.string ln] rfl rfl 46 _ (heap_alloc_last _ _) (by kernel_rfl) rfl H1C.out ?_;rw [World.setRow_alloc_new]))
   generalize hX1:wr.alloc (Obj.cells #[.int .i64 K,.int .i64 c,.int .i64 n,.int .i64 k,.int .i64 p,.string s,.slice a m cap,.int .i64 tc,.int .i64 tn,.bool on,.int .i64 c2,.int .i64 n2,.int .i64 k2,.int .i64 p2,.string s2,.slice b2 m2 cap2,.int .i64 tc2,.int .i64 tn2,.bool on2,.int .i64 tot,.string ln] 46)=X1
   have hc1:Below wr.heap.size wr X1:=hX1▸(Below.refl wr.heap.size wr).alloc (Nat.le_refl _) _
   have hb1:X1.heap[wr.heap.size]?=some (.cells #[.int .i64 K,.int .i64 c,.int .i64 n,.int .i64 k,.int .i64 p,.string s,.slice a m cap,.int .i64 tc,.int .i64 tn,.bool on,.int .i64 c2,.int .i64 n2,.int .i64 k2,.int .i64 p2,.string s2,.slice b2 m2 cap2,.int .i64 tc2,.int .i64 tn2,.bool on2,.int .i64 tot,.string ln] 46):=hX1▸alloc_last _ _ _ rfl
   clear hX1
   have hH1:=hH.trans (hc1.mono hH.size)
   have hr1:=hr0.below hc1
   have hlt1:=(Array.getElem?_eq_some_iff.1 hb1).1
   have HRW1:Hid (Rw cellV 2 X1 aR nR cR R∧Holds w2 q R X1):=⟨HRW.out.1.below hc1,HRW.out.2.still hc1⟩
   have hqs:wr.heap.size≠q:=HRW.out.2.ne (Nat.le_refl _)
   clear HRW
   clear HRG H1C
   obtain ⟨x0,x1,x2,x3,x4,x5,x6,x7,x8,x9,x10,x11,x12,x13,x14,x15,x16,x17,x18,x19,x20⟩:=box21 hb1
   by_cases hK1:K<1
   ·go_wp2_with fail
    go_roundw
    case rel=>first|exact ⟨i+1,R,aR,nR,cR,by go_num,rfl,by omega,HRW1.out.2,HRI.out,HRW1.out.1⟩|((repeat apply Exists.intro);exact ⟨⟨i+1,R,aR,nR,cR,by go_num,rfl,by omega,HRW1.out.2,HRI.out,HRW1.out.1⟩,rfl⟩)
    case measure=>simp [RowKit.intOf];omega
   ·by_cases hK2:9<K
    ·go_wp2_with fail
     go_roundw
     case rel=>first|exact ⟨i+1,R,aR,nR,cR,by go_num,rfl,by omega,HRW1.out.2,HRI.out,HRW1.out.1⟩|((repeat apply Exists.intro);exact ⟨⟨i+1,R,aR,nR,cR,by go_num,rfl,by omega,HRW1.out.2,HRI.out,HRW1.out.1⟩,rfl⟩)
     case measure=>simp [RowKit.intOf];omega
    ·have hK12:K=1∨K=2∨K=3∨K=4∨K=5∨K=6∨K=7∨K=8∨K=9:=by omega
     clear hK1 hK2
     rcases hK12 with rfl|rfl|rfl|rfl|rfl|rfl|rfl|rfl|rfl
     ·have T1:=copied4S_any (o:=⟨c,n,k,p,s,l,tc,tn,on⟩) hr1 hmx
      simp only [opVal] at T1
      go_wp2_with fail
      refine T1.mono ?_
      rintro e X2 ⟨a1,cap1,rfl,hrw,hc2⟩
      clear T1
      clear x0 x1 x2 x3 x4 x5 x6 x7 x8 x9 x10 x11 x12 x13 x14 x15 x16 x17 x18 x19 x20
      go_upto_region 12 with fail
      generalize hX3:X2.alloc (Obj.cells #[.int .i64 c,.int .i64 n,.int .i64 k,.int .i64 p,.string s,.slice a1 m cap1,.int .i64 tc,.int .i64 tn,.bool on] 44)=X3
      have hc3:Below X2.heap.size X2 X3:=hX3▸(Below.refl X2.heap.size X2).alloc (Nat.le_refl _) _
      have ho3:X3.heap[X2.heap.size]?=some (.cells #[.int .i64 c,.int .i64 n,.int .i64 k,.int .i64 p,.string s,.slice a1 m cap1,.int .i64 tc,.int .i64 tn,.bool on] 44):=hX3▸alloc_last _ _ _ rfl
      clear hX3
      have hcc:=hc2.trans (hc3.mono hc2.size)
      have hb3':=(hcc.block _ hlt1).trans hb1
      have hr3:=hr1.below hcc
      have hrw3:=hrw.below hc3
      have HW3:Hid (Rw cellV 2 X3 aR nR cR R∧Holds w2 q R X3):=⟨HRW1.out.1.below hcc,HRW1.out.2.still hcc⟩
      have hH3:=hH1.trans (hcc.mono hH1.size)
      have hlt3:=(Array.getElem?_eq_some_iff.1 ho3).1
      have hlt3':=(Array.getElem?_eq_some_iff.1 hb3').1
      clear hc2 hc3 hcc hb1 hH1 hr1 hrw hlt1 HRW1 hqs
      obtain ⟨x0,x1,x2,x3,x4,x5,x6,x7,x8,x9,x10,x11,x12,x13,x14,x15,x16,x17,x18,x19,x20⟩:=box21 hb3'
      obtain ⟨y0,y1,y2,y3,y4,y5,y6,y7,y8⟩:=box9 ho3
      have hl3:Sp.Rng X3 a1 m cap1 l:=rng_of_rw (rw_frontK hrw3 hr3.len)
      have T2:=asks_1 (c:=c) (n:=n) (k:=k) (p:=p) (s:=s) (tc:=tc) (tn:=tn) (on:=on) (c2:=c2) (n2:=n2) (k2:=k2) (p2:=p2) (tc2:=tc2) (tn2:=tn2) (tot:=tot) (s2:=s2) (ln:=ln) (on2:=on2) (b2:=b2) (m2:=m2) (cap2:=cap2) hl3 hr3 hsx (HBAR.out.below hH3)
      have HBX:Hid (X3.rangeAt wr.heap.size 0 [.int .i64 1,.int .i64 c,.int .i64 n,.int .i64 k,.int .i64 p,.string s,.slice a m cap,.int .i64 tc,.int .i64 tn,.bool on,.int .i64 c2,.int .i64 n2,.int .i64 k2,.int .i64 p2,.string s2,.slice b2 m2 cap2,.int .i64 tc2,.int .i64 tn2,.bool on2,.int .i64 tot,.string ln]):=range_block hb3'
      clear hH3
      go_wp2_with (refine wpList_load_mid rfl 46 _ rfl wr.heap.size 0 rfl [.int .i64 1,.int .i64 c,.int .i64 n,.int .i64 k,.int .i64 p,.string s,.slice a m cap,.int .i64 tc,.int .i64 tn,.bool on,.int .i64 c2,.int .i64 n2,.int .i64 k2,.int .i64 p2,.string s2,.slice b2 m2 cap2,.int .i64 tc2,.int .i64 tn2,.bool on2,.int .i64 tot,.string ln] _ HBX.out Tryz.underlying46 rfl (by kernel_rfl) ?_)
      refine T2.mono ?_
      clear HBX
      rintro e X4 ⟨rfl,hc4⟩
      clear T2
      clear x0 x1 x2 x3 x4 x5 x6 x7 x8 x9 x10 x11 x12 x13 x14 x15 x16 x17 x18 x19 x20
      clear y0 y1 y2 y3 y4 y5 y6 y7 y8
      have hb4:=(hc4.block _ hlt3').trans hb3'
      have ho4:=(hc4.block _ hlt3).trans ho3
      have HW4:Hid (Rw cellV 2 X4 aR nR cR R∧Holds w2 q R X4):=⟨HW3.out.1.below hc4,HW3.out.2.still hc4⟩
      have hr4:=hr3.below hc4
      have hrw4:=hrw3.below hc4
      have hl4:=hl3.below hc4
      clear hb3' ho3 HW3 hr3 hrw3 hl3
      obtain ⟨x0,x1,x2,x3,x4,x5,x6,x7,x8,x9,x10,x11,x12,x13,x14,x15,x16,x17,x18,x19,x20⟩:=box21 hb4
      obtain ⟨y0,y1,y2,y3,y4,y5,y6,y7,y8⟩:=box9 ho4
      have T3:=gEqual_self (o:=⟨c,n,k,p,s,l,tc,tn,on⟩) hl4 hr4
      simp only [opVal] at T3
      go_wp2_with fail
      refine T3.mono ?_
      rintro e X5 ⟨rfl,hc5⟩
      clear T3
      clear x0 x1 x2 x3 x4 x5 x6 x7 x8 x9 x10 x11 x12 x13 x14 x15 x16 x17 x18 x19 x20
      clear y0 y1 y2 y3 y4 y5 y6 y7 y8
      have hs4:=hc4.size
      have ho5:=(hc5.block _ (by omega)).trans ho4
      have HW5:Hid (Rw cellV 2 X5 aR nR cR R∧Holds w2 q R X5):=⟨HW4.out.1.below hc5,HW4.out.2.still hc5⟩
      have hrw5:=hrw4.below hc5
      clear hb4 ho4 HW4 hr4 hrw4 hl4 hc4
      obtain ⟨y0,y1,y2,y3,y4,y5,y6,y7,y8⟩:=box9 ho5
      have T4:=spare_any (o:=⟨c,n,k,p,s,l,tc,tn,on⟩) hrw5
      simp only [opVal] at T4
      go_wp2_with fail
      refine T4.mono ?_
      rintro e X6 ⟨rfl,hc6⟩
      have hRw6:=HW5.out.1.below hc6
      have hH6:=HW5.out.2.still hc6
      clear T4 hc6 hrw5 ho5 HW5
      clear y0 y1 y2 y3 y4 y5 y6 y7 y8
      go_wp2_with fail
      go_roundw
      case rel=>first|exact ⟨i+1,R,aR,nR,cR,by go_num,rfl,by omega,hH6,HRI.out,hRw6⟩|((repeat apply Exists.intro);exact ⟨⟨i+1,R,aR,nR,cR,by go_num,rfl,by omega,hH6,HRI.out,hRw6⟩,rfl⟩)
      case measure=>simp [RowKit.intOf];omega
     ·have T1:=copied4S_any (o:=⟨c,n,k,p,s,l,tc,tn,on⟩) hr1 hmx
      simp only [opVal] at T1
      go_wp2_with fail
      refine T1.mono ?_
      rintro e X2 ⟨a1,cap1,rfl,hrw,hc2⟩
      clear T1
      clear x0 x1 x2 x3 x4 x5 x6 x7 x8 x9 x10 x11 x12 x13 x14 x15 x16 x17 x18 x19 x20
      go_upto_region 12 with fail
      generalize hX3:X2.alloc (Obj.cells #[.int .i64 c,.int .i64 n,.int .i64 k,.int .i64 p,.string s,.slice a1 m cap1,.int .i64 tc,.int .i64 tn,.bool on] 44)=X3
      have hc3:Below X2.heap.size X2 X3:=hX3▸(Below.refl X2.heap.size X2).alloc (Nat.le_refl _) _
      have ho3:X3.heap[X2.heap.size]?=some (.cells #[.int .i64 c,.int .i64 n,.int .i64 k,.int .i64 p,.string s,.slice a1 m cap1,.int .i64 tc,.int .i64 tn,.bool on] 44):=hX3▸alloc_last _ _ _ rfl
      clear hX3
      have hcc:=hc2.trans (hc3.mono hc2.size)
      have hb3':=(hcc.block _ hlt1).trans hb1
      have hr3:=hr1.below hcc
      have hrw3:=hrw.below hc3
      have HW3:Hid (Rw cellV 2 X3 aR nR cR R∧Holds w2 q R X3):=⟨HRW1.out.1.below hcc,HRW1.out.2.still hcc⟩
      have hH3:=hH1.trans (hcc.mono hH1.size)
      have hlt3:=(Array.getElem?_eq_some_iff.1 ho3).1
      have hlt3':=(Array.getElem?_eq_some_iff.1 hb3').1
      clear hc2 hc3 hcc hb1 hH1 hr1 hrw hlt1 HRW1 hqs
      obtain ⟨x0,x1,x2,x3,x4,x5,x6,x7,x8,x9,x10,x11,x12,x13,x14,x15,x16,x17,x18,x19,x20⟩:=box21 hb3'
      obtain ⟨y0,y1,y2,y3,y4,y5,y6,y7,y8⟩:=box9 ho3
      have hl3:Sp.Rng X3 a1 m cap1 l:=rng_of_rw (rw_frontK hrw3 hr3.len)
      have T2:=asks_2 (c:=c) (n:=n) (k:=k) (p:=p) (s:=s) (tc:=tc) (tn:=tn) (on:=on) (c2:=c2) (n2:=n2) (k2:=k2) (p2:=p2) (tc2:=tc2) (tn2:=tn2) (tot:=tot) (s2:=s2) (ln:=ln) (on2:=on2) (b2:=b2) (m2:=m2) (cap2:=cap2) hl3 hr3 hsx (HBAR.out.below hH3)
      have HBX:Hid (X3.rangeAt wr.heap.size 0 [.int .i64 2,.int .i64 c,.int .i64 n,.int .i64 k,.int .i64 p,.string s,.slice a m cap,.int .i64 tc,.int .i64 tn,.bool on,.int .i64 c2,.int .i64 n2,.int .i64 k2,.int .i64 p2,.string s2,.slice b2 m2 cap2,.int .i64 tc2,.int .i64 tn2,.bool on2,.int .i64 tot,.string ln]):=range_block hb3'
      clear hH3
      go_wp2_with (refine wpList_load_mid rfl 46 _ rfl wr.heap.size 0 rfl [.int .i64 2,.int .i64 c,.int .i64 n,.int .i64 k,.int .i64 p,.string s,.slice a m cap,.int .i64 tc,.int .i64 tn,.bool on,.int .i64 c2,.int .i64 n2,.int .i64 k2,.int .i64 p2,.string s2,.slice b2 m2 cap2,.int .i64 tc2,.int .i64 tn2,.bool on2,.int .i64 tot,.string ln] _ HBX.out Tryz.underlying46 rfl (by kernel_rfl) ?_)
      refine T2.mono ?_
      clear HBX
      rintro e X4 ⟨rfl,hc4⟩
      clear T2
      clear x0 x1 x2 x3 x4 x5 x6 x7 x8 x9 x10 x11 x12 x13 x14 x15 x16 x17 x18 x19 x20
      clear y0 y1 y2 y3 y4 y5 y6 y7 y8
      have hb4:=(hc4.block _ hlt3').trans hb3'
      have ho4:=(hc4.block _ hlt3).trans ho3
      have HW4:Hid (Rw cellV 2 X4 aR nR cR R∧Holds w2 q R X4):=⟨HW3.out.1.below hc4,HW3.out.2.still hc4⟩
      have hr4:=hr3.below hc4
      have hrw4:=hrw3.below hc4
      have hl4:=hl3.below hc4
      clear hb3' ho3 HW3 hr3 hrw3 hl3
      obtain ⟨x0,x1,x2,x3,x4,x5,x6,x7,x8,x9,x10,x11,x12,x13,x14,x15,x16,x17,x18,x19,x20⟩:=box21 hb4
      obtain ⟨y0,y1,y2,y3,y4,y5,y6,y7,y8⟩:=box9 ho4
      have T3:=gEqual_self (o:=⟨c,n,k,p,s,l,tc,tn,on⟩) hl4 hr4
      simp only [opVal] at T3
      go_wp2_with fail
      refine T3.mono ?_
      rintro e X5 ⟨rfl,hc5⟩
      clear T3
      clear x0 x1 x2 x3 x4 x5 x6 x7 x8 x9 x10 x11 x12 x13 x14 x15 x16 x17 x18 x19 x20
      clear y0 y1 y2 y3 y4 y5 y6 y7 y8
      have hs4:=hc4.size
      have ho5:=(hc5.block _ (by omega)).trans ho4
      have HW5:Hid (Rw cellV 2 X5 aR nR cR R∧Holds w2 q R X5):=⟨HW4.out.1.below hc5,HW4.out.2.still hc5⟩
      have hrw5:=hrw4.below hc5
      clear hb4 ho4 HW4 hr4 hrw4 hl4 hc4
      obtain ⟨y0,y1,y2,y3,y4,y5,y6,y7,y8⟩:=box9 ho5
      have T4:=spare_any (o:=⟨c,n,k,p,s,l,tc,tn,on⟩) hrw5
      simp only [opVal] at T4
      go_wp2_with fail
      refine T4.mono ?_
      rintro e X6 ⟨rfl,hc6⟩
      have hRw6:=HW5.out.1.below hc6
      have hH6:=HW5.out.2.still hc6
      clear T4 hc6 hrw5 ho5 HW5
      clear y0 y1 y2 y3 y4 y5 y6 y7 y8
      go_wp2_with fail
      go_roundw
      case rel=>first|exact ⟨i+1,R,aR,nR,cR,by go_num,rfl,by omega,hH6,HRI.out,hRw6⟩|((repeat apply Exists.intro);exact ⟨⟨i+1,R,aR,nR,cR,by go_num,rfl,by omega,hH6,HRI.out,hRw6⟩,rfl⟩)
      case measure=>simp [RowKit.intOf];omega
     ·have T1:=copied4S_any (o:=⟨c,n,k,p,s,l,tc,tn,on⟩) hr1 hmx
      simp only [opVal] at T1
      go_wp2_with fail
      refine T1.mono ?_
      rintro e X2 ⟨a1,cap1,rfl,hrw,hc2⟩
      clear T1
      clear x0 x1 x2 x3 x4 x5 x6 x7 x8 x9 x10 x11 x12 x13 x14 x15 x16 x17 x18 x19 x20
      go_upto_region 12 with fail
      generalize hX3:X2.alloc (Obj.cells #[.int .i64 c,.int .i64 n,.int .i64 k,.int .i64 p,.string s,.slice a1 m cap1,.int .i64 tc,.int .i64 tn,.bool on] 44)=X3
      have hc3:Below X2.heap.size X2 X3:=hX3▸(Below.refl X2.heap.size X2).alloc (Nat.le_refl _) _
      have ho3:X3.heap[X2.heap.size]?=some (.cells #[.int .i64 c,.int .i64 n,.int .i64 k,.int .i64 p,.string s,.slice a1 m cap1,.int .i64 tc,.int .i64 tn,.bool on] 44):=hX3▸alloc_last _ _ _ rfl
      clear hX3
      have hcc:=hc2.trans (hc3.mono hc2.size)
      have hb3':=(hcc.block _ hlt1).trans hb1
      have hr3:=hr1.below hcc
      have hrw3:=hrw.below hc3
      have HW3:Hid (Rw cellV 2 X3 aR nR cR R∧Holds w2 q R X3):=⟨HRW1.out.1.below hcc,HRW1.out.2.still hcc⟩
      have hH3:=hH1.trans (hcc.mono hH1.size)
      have hlt3:=(Array.getElem?_eq_some_iff.1 ho3).1
      have hlt3':=(Array.getElem?_eq_some_iff.1 hb3').1
      clear hc2 hc3 hcc hb1 hH1 hr1 hrw hlt1 HRW1 hqs
      obtain ⟨x0,x1,x2,x3,x4,x5,x6,x7,x8,x9,x10,x11,x12,x13,x14,x15,x16,x17,x18,x19,x20⟩:=box21 hb3'
      obtain ⟨y0,y1,y2,y3,y4,y5,y6,y7,y8⟩:=box9 ho3
      have hl3:Sp.Rng X3 a1 m cap1 l:=rng_of_rw (rw_frontK hrw3 hr3.len)
      have T2:=asks_3 (c:=c) (n:=n) (k:=k) (p:=p) (s:=s) (tc:=tc) (tn:=tn) (on:=on) (c2:=c2) (n2:=n2) (k2:=k2) (p2:=p2) (tc2:=tc2) (tn2:=tn2) (tot:=tot) (s2:=s2) (ln:=ln) (on2:=on2) (b2:=b2) (m2:=m2) (cap2:=cap2) hl3 hr3 hsx HR2.out.2.2.1 (HBAR.out.below hH3)
      have HBX:Hid (X3.rangeAt wr.heap.size 0 [.int .i64 3,.int .i64 c,.int .i64 n,.int .i64 k,.int .i64 p,.string s,.slice a m cap,.int .i64 tc,.int .i64 tn,.bool on,.int .i64 c2,.int .i64 n2,.int .i64 k2,.int .i64 p2,.string s2,.slice b2 m2 cap2,.int .i64 tc2,.int .i64 tn2,.bool on2,.int .i64 tot,.string ln]):=range_block hb3'
      clear hH3
      go_wp2_with (refine wpList_load_mid rfl 46 _ rfl wr.heap.size 0 rfl [.int .i64 3,.int .i64 c,.int .i64 n,.int .i64 k,.int .i64 p,.string s,.slice a m cap,.int .i64 tc,.int .i64 tn,.bool on,.int .i64 c2,.int .i64 n2,.int .i64 k2,.int .i64 p2,.string s2,.slice b2 m2 cap2,.int .i64 tc2,.int .i64 tn2,.bool on2,.int .i64 tot,.string ln] _ HBX.out Tryz.underlying46 rfl (by kernel_rfl) ?_)
      refine T2.mono ?_
      clear HBX
      rintro e X4 ⟨rfl,hc4⟩
      clear T2
      clear x0 x1 x2 x3 x4 x5 x6 x7 x8 x9 x10 x11 x12 x13 x14 x15 x16 x17 x18 x19 x20
      clear y0 y1 y2 y3 y4 y5 y6 y7 y8
      have hb4:=(hc4.block _ hlt3').trans hb3'
      have ho4:=(hc4.block _ hlt3).trans ho3
      have HW4:Hid (Rw cellV 2 X4 aR nR cR R∧Holds w2 q R X4):=⟨HW3.out.1.below hc4,HW3.out.2.still hc4⟩
      have hr4:=hr3.below hc4
      have hrw4:=hrw3.below hc4
      have hl4:=hl3.below hc4
      clear hb3' ho3 HW3 hr3 hrw3 hl3
      obtain ⟨x0,x1,x2,x3,x4,x5,x6,x7,x8,x9,x10,x11,x12,x13,x14,x15,x16,x17,x18,x19,x20⟩:=box21 hb4
      obtain ⟨y0,y1,y2,y3,y4,y5,y6,y7,y8⟩:=box9 ho4
      have T3:=gEqual_self (o:=⟨c,n,k,p,s,l,tc,tn,on⟩) hl4 hr4
      simp only [opVal] at T3
      go_wp2_with fail
      refine T3.mono ?_
      rintro e X5 ⟨rfl,hc5⟩
      clear T3
      clear x0 x1 x2 x3 x4 x5 x6 x7 x8 x9 x10 x11 x12 x13 x14 x15 x16 x17 x18 x19 x20
      clear y0 y1 y2 y3 y4 y5 y6 y7 y8
      have hs4:=hc4.size
      have ho5:=(hc5.block _ (by omega)).trans ho4
      have HW5:Hid (Rw cellV 2 X5 aR nR cR R∧Holds w2 q R X5):=⟨HW4.out.1.below hc5,HW4.out.2.still hc5⟩
      have hrw5:=hrw4.below hc5
      clear hb4 ho4 HW4 hr4 hrw4 hl4 hc4
      obtain ⟨y0,y1,y2,y3,y4,y5,y6,y7,y8⟩:=box9 ho5
      have T4:=spare_any (o:=⟨c,n,k,p,s,l,tc,tn,on⟩) hrw5
      simp only [opVal] at T4
      go_wp2_with fail
      refine T4.mono ?_
      rintro e X6 ⟨rfl,hc6⟩
      have hRw6:=HW5.out.1.below hc6
      have hH6:=HW5.out.2.still hc6
      clear T4 hc6 hrw5 ho5 HW5
      clear y0 y1 y2 y3 y4 y5 y6 y7 y8
      go_wp2_with fail
      go_roundw
      case rel=>first|exact ⟨i+1,R,aR,nR,cR,by go_num,rfl,by omega,hH6,HRI.out,hRw6⟩|((repeat apply Exists.intro);exact ⟨⟨i+1,R,aR,nR,cR,by go_num,rfl,by omega,hH6,HRI.out,hRw6⟩,rfl⟩)
      case measure=>simp [RowKit.intOf];omega
     ·have T1:=copied4S_any (o:=⟨c,n,k,p,s,l,tc,tn,on⟩) hr1 hmx
      simp only [opVal] at T1
      go_wp2_with fail
      refine T1.mono ?_
      rintro e X2 ⟨a1,cap1,rfl,hrw,hc2⟩
      clear T1
      clear x0 x1 x2 x3 x4 x5 x6 x7 x8 x9 x10 x11 x12 x13 x14 x15 x16 x17 x18 x19 x20
      go_upto_region 12 with fail
      generalize hX3:X2.alloc (Obj.cells #[.int .i64 c,.int .i64 n,.int .i64 k,.int .i64 p,.string s,.slice a1 m cap1,.int .i64 tc,.int .i64 tn,.bool on] 44)=X3
      have hc3:Below X2.heap.size X2 X3:=hX3▸(Below.refl X2.heap.size X2).alloc (Nat.le_refl _) _
      have ho3:X3.heap[X2.heap.size]?=some (.cells #[.int .i64 c,.int .i64 n,.int .i64 k,.int .i64 p,.string s,.slice a1 m cap1,.int .i64 tc,.int .i64 tn,.bool on] 44):=hX3▸alloc_last _ _ _ rfl
      clear hX3
      have hcc:=hc2.trans (hc3.mono hc2.size)
      have hb3':=(hcc.block _ hlt1).trans hb1
      have hr3:=hr1.below hcc
      have hrw3:=hrw.below hc3
      have HW3:Hid (Rw cellV 2 X3 aR nR cR R∧Holds w2 q R X3):=⟨HRW1.out.1.below hcc,HRW1.out.2.still hcc⟩
      have hH3:=hH1.trans (hcc.mono hH1.size)
      have hlt3:=(Array.getElem?_eq_some_iff.1 ho3).1
      have hlt3':=(Array.getElem?_eq_some_iff.1 hb3').1
      clear hc2 hc3 hcc hb1 hH1 hr1 hrw hlt1 HRW1 hqs
      obtain ⟨x0,x1,x2,x3,x4,x5,x6,x7,x8,x9,x10,x11,x12,x13,x14,x15,x16,x17,x18,x19,x20⟩:=box21 hb3'
      obtain ⟨y0,y1,y2,y3,y4,y5,y6,y7,y8⟩:=box9 ho3
      have hl3:Sp.Rng X3 a1 m cap1 l:=rng_of_rw (rw_frontK hrw3 hr3.len)
      have T2:=asks_4 (c:=c) (n:=n) (k:=k) (p:=p) (s:=s) (tc:=tc) (tn:=tn) (on:=on) (c2:=c2) (n2:=n2) (k2:=k2) (p2:=p2) (tc2:=tc2) (tn2:=tn2) (tot:=tot) (s2:=s2) (ln:=ln) (on2:=on2) (b2:=b2) (m2:=m2) (cap2:=cap2) hl3 hr3 hsx HR2.out.2.2.1 (HBAR.out.below hH3) (HR2.out.1.below hH3) HR2.out.2.1
      have HBX:Hid (X3.rangeAt wr.heap.size 0 [.int .i64 4,.int .i64 c,.int .i64 n,.int .i64 k,.int .i64 p,.string s,.slice a m cap,.int .i64 tc,.int .i64 tn,.bool on,.int .i64 c2,.int .i64 n2,.int .i64 k2,.int .i64 p2,.string s2,.slice b2 m2 cap2,.int .i64 tc2,.int .i64 tn2,.bool on2,.int .i64 tot,.string ln]):=range_block hb3'
      clear hH3
      go_wp2_with (refine wpList_load_mid rfl 46 _ rfl wr.heap.size 0 rfl [.int .i64 4,.int .i64 c,.int .i64 n,.int .i64 k,.int .i64 p,.string s,.slice a m cap,.int .i64 tc,.int .i64 tn,.bool on,.int .i64 c2,.int .i64 n2,.int .i64 k2,.int .i64 p2,.string s2,.slice b2 m2 cap2,.int .i64 tc2,.int .i64 tn2,.bool on2,.int .i64 tot,.string ln] _ HBX.out Tryz.underlying46 rfl (by kernel_rfl) ?_)
      refine T2.mono ?_
      clear HBX
      rintro e X4 ⟨rfl,hc4⟩
      clear T2
      clear x0 x1 x2 x3 x4 x5 x6 x7 x8 x9 x10 x11 x12 x13 x14 x15 x16 x17 x18 x19 x20
      clear y0 y1 y2 y3 y4 y5 y6 y7 y8
      have hb4:=(hc4.block _ hlt3').trans hb3'
      have ho4:=(hc4.block _ hlt3).trans ho3
      have HW4:Hid (Rw cellV 2 X4 aR nR cR R∧Holds w2 q R X4):=⟨HW3.out.1.below hc4,HW3.out.2.still hc4⟩
      have hr4:=hr3.below hc4
      have hrw4:=hrw3.below hc4
      have hl4:=hl3.below hc4
      clear hb3' ho3 HW3 hr3 hrw3 hl3
      obtain ⟨x0,x1,x2,x3,x4,x5,x6,x7,x8,x9,x10,x11,x12,x13,x14,x15,x16,x17,x18,x19,x20⟩:=box21 hb4
      obtain ⟨y0,y1,y2,y3,y4,y5,y6,y7,y8⟩:=box9 ho4
      have T3:=gEqual_self (o:=⟨c,n,k,p,s,l,tc,tn,on⟩) hl4 hr4
      simp only [opVal] at T3
      go_wp2_with fail
      refine T3.mono ?_
      rintro e X5 ⟨rfl,hc5⟩
      clear T3
      clear x0 x1 x2 x3 x4 x5 x6 x7 x8 x9 x10 x11 x12 x13 x14 x15 x16 x17 x18 x19 x20
      clear y0 y1 y2 y3 y4 y5 y6 y7 y8
      have hs4:=hc4.size
      have ho5:=(hc5.block _ (by omega)).trans ho4
      have HW5:Hid (Rw cellV 2 X5 aR nR cR R∧Holds w2 q R X5):=⟨HW4.out.1.below hc5,HW4.out.2.still hc5⟩
      have hrw5:=hrw4.below hc5
      clear hb4 ho4 HW4 hr4 hrw4 hl4 hc4
      obtain ⟨y0,y1,y2,y3,y4,y5,y6,y7,y8⟩:=box9 ho5
      have T4:=spare_any (o:=⟨c,n,k,p,s,l,tc,tn,on⟩) hrw5
      simp only [opVal] at T4
      go_wp2_with fail
      refine T4.mono ?_
      rintro e X6 ⟨rfl,hc6⟩
      have hRw6:=HW5.out.1.below hc6
      have hH6:=HW5.out.2.still hc6
      clear T4 hc6 hrw5 ho5 HW5
      clear y0 y1 y2 y3 y4 y5 y6 y7 y8
      go_wp2_with fail
      go_roundw
      case rel=>first|exact ⟨i+1,R,aR,nR,cR,by go_num,rfl,by omega,hH6,HRI.out,hRw6⟩|((repeat apply Exists.intro);exact ⟨⟨i+1,R,aR,nR,cR,by go_num,rfl,by omega,hH6,HRI.out,hRw6⟩,rfl⟩)
      case measure=>simp [RowKit.intOf];omega
     ·have T1:=copied4S_any (o:=⟨c,n,k,p,s,l,tc,tn,on⟩) hr1 hmx
      simp only [opVal] at T1
      go_wp2_with fail
      refine T1.mono ?_
      rintro e X2 ⟨a1,cap1,rfl,hrw,hc2⟩
      clear T1
      clear x0 x1 x2 x3 x4 x5 x6 x7 x8 x9 x10 x11 x12 x13 x14 x15 x16 x17 x18 x19 x20
      go_upto_region 12 with fail
      generalize hX3:X2.alloc (Obj.cells #[.int .i64 c,.int .i64 n,.int .i64 k,.int .i64 p,.string s,.slice a1 m cap1,.int .i64 tc,.int .i64 tn,.bool on] 44)=X3
      have hc3:Below X2.heap.size X2 X3:=hX3▸(Below.refl X2.heap.size X2).alloc (Nat.le_refl _) _
      have ho3:X3.heap[X2.heap.size]?=some (.cells #[.int .i64 c,.int .i64 n,.int .i64 k,.int .i64 p,.string s,.slice a1 m cap1,.int .i64 tc,.int .i64 tn,.bool on] 44):=hX3▸alloc_last _ _ _ rfl
      clear hX3
      have hcc:=hc2.trans (hc3.mono hc2.size)
      have hb3':=(hcc.block _ hlt1).trans hb1
      have hr3:=hr1.below hcc
      have hrw3:=hrw.below hc3
      have HW3:Hid (Rw cellV 2 X3 aR nR cR R∧Holds w2 q R X3):=⟨HRW1.out.1.below hcc,HRW1.out.2.still hcc⟩
      have hH3:=hH1.trans (hcc.mono hH1.size)
      have hlt3:=(Array.getElem?_eq_some_iff.1 ho3).1
      have hlt3':=(Array.getElem?_eq_some_iff.1 hb3').1
      clear hc2 hc3 hcc hb1 hH1 hr1 hrw hlt1 HRW1 hqs
      obtain ⟨x0,x1,x2,x3,x4,x5,x6,x7,x8,x9,x10,x11,x12,x13,x14,x15,x16,x17,x18,x19,x20⟩:=box21 hb3'
      obtain ⟨y0,y1,y2,y3,y4,y5,y6,y7,y8⟩:=box9 ho3
      have hl3:Sp.Rng X3 a1 m cap1 l:=rng_of_rw (rw_frontK hrw3 hr3.len)
      have T2:=asks_5 (c:=c) (n:=n) (k:=k) (p:=p) (s:=s) (tc:=tc) (tn:=tn) (on:=on) (c2:=c2) (n2:=n2) (k2:=k2) (p2:=p2) (tc2:=tc2) (tn2:=tn2) (tot:=tot) (s2:=s2) (ln:=ln) (on2:=on2) (b2:=b2) (m2:=m2) (cap2:=cap2) hl3 hr3 hsx HR2.out.2.2.1 (HBAR.out.below hH3)
      have HBX:Hid (X3.rangeAt wr.heap.size 0 [.int .i64 5,.int .i64 c,.int .i64 n,.int .i64 k,.int .i64 p,.string s,.slice a m cap,.int .i64 tc,.int .i64 tn,.bool on,.int .i64 c2,.int .i64 n2,.int .i64 k2,.int .i64 p2,.string s2,.slice b2 m2 cap2,.int .i64 tc2,.int .i64 tn2,.bool on2,.int .i64 tot,.string ln]):=range_block hb3'
      clear hH3
      go_wp2_with (refine wpList_load_mid rfl 46 _ rfl wr.heap.size 0 rfl [.int .i64 5,.int .i64 c,.int .i64 n,.int .i64 k,.int .i64 p,.string s,.slice a m cap,.int .i64 tc,.int .i64 tn,.bool on,.int .i64 c2,.int .i64 n2,.int .i64 k2,.int .i64 p2,.string s2,.slice b2 m2 cap2,.int .i64 tc2,.int .i64 tn2,.bool on2,.int .i64 tot,.string ln] _ HBX.out Tryz.underlying46 rfl (by kernel_rfl) ?_)
      refine T2.mono ?_
      clear HBX
      rintro e X4 ⟨rfl,hc4⟩
      clear T2
      clear x0 x1 x2 x3 x4 x5 x6 x7 x8 x9 x10 x11 x12 x13 x14 x15 x16 x17 x18 x19 x20
      clear y0 y1 y2 y3 y4 y5 y6 y7 y8
      have hb4:=(hc4.block _ hlt3').trans hb3'
      have ho4:=(hc4.block _ hlt3).trans ho3
      have HW4:Hid (Rw cellV 2 X4 aR nR cR R∧Holds w2 q R X4):=⟨HW3.out.1.below hc4,HW3.out.2.still hc4⟩
      have hr4:=hr3.below hc4
      have hrw4:=hrw3.below hc4
      have hl4:=hl3.below hc4
      clear hb3' ho3 HW3 hr3 hrw3 hl3
      obtain ⟨x0,x1,x2,x3,x4,x5,x6,x7,x8,x9,x10,x11,x12,x13,x14,x15,x16,x17,x18,x19,x20⟩:=box21 hb4
      obtain ⟨y0,y1,y2,y3,y4,y5,y6,y7,y8⟩:=box9 ho4
      have T3:=gEqual_self (o:=⟨c,n,k,p,s,l,tc,tn,on⟩) hl4 hr4
      simp only [opVal] at T3
      go_wp2_with fail
      refine T3.mono ?_
      rintro e X5 ⟨rfl,hc5⟩
      clear T3
      clear x0 x1 x2 x3 x4 x5 x6 x7 x8 x9 x10 x11 x12 x13 x14 x15 x16 x17 x18 x19 x20
      clear y0 y1 y2 y3 y4 y5 y6 y7 y8
      have hs4:=hc4.size
      have ho5:=(hc5.block _ (by omega)).trans ho4
      have HW5:Hid (Rw cellV 2 X5 aR nR cR R∧Holds w2 q R X5):=⟨HW4.out.1.below hc5,HW4.out.2.still hc5⟩
      have hrw5:=hrw4.below hc5
      clear hb4 ho4 HW4 hr4 hrw4 hl4 hc4
      obtain ⟨y0,y1,y2,y3,y4,y5,y6,y7,y8⟩:=box9 ho5
      have T4:=spare_any (o:=⟨c,n,k,p,s,l,tc,tn,on⟩) hrw5
      simp only [opVal] at T4
      go_wp2_with fail
      refine T4.mono ?_
      rintro e X6 ⟨rfl,hc6⟩
      have hRw6:=HW5.out.1.below hc6
      have hH6:=HW5.out.2.still hc6
      clear T4 hc6 hrw5 ho5 HW5
      clear y0 y1 y2 y3 y4 y5 y6 y7 y8
      go_wp2_with fail
      go_roundw
      case rel=>first|exact ⟨i+1,R,aR,nR,cR,by go_num,rfl,by omega,hH6,HRI.out,hRw6⟩|((repeat apply Exists.intro);exact ⟨⟨i+1,R,aR,nR,cR,by go_num,rfl,by omega,hH6,HRI.out,hRw6⟩,rfl⟩)
      case measure=>simp [RowKit.intOf];omega
     ·have T1:=copied4S_any (o:=⟨c,n,k,p,s,l,tc,tn,on⟩) hr1 hmx
      simp only [opVal] at T1
      go_wp2_with fail
      refine T1.mono ?_
      rintro e X2 ⟨a1,cap1,rfl,hrw,hc2⟩
      clear T1
      clear x0 x1 x2 x3 x4 x5 x6 x7 x8 x9 x10 x11 x12 x13 x14 x15 x16 x17 x18 x19 x20
      go_upto_region 12 with fail
      generalize hX3:X2.alloc (Obj.cells #[.int .i64 c,.int .i64 n,.int .i64 k,.int .i64 p,.string s,.slice a1 m cap1,.int .i64 tc,.int .i64 tn,.bool on] 44)=X3
      have hc3:Below X2.heap.size X2 X3:=hX3▸(Below.refl X2.heap.size X2).alloc (Nat.le_refl _) _
      have ho3:X3.heap[X2.heap.size]?=some (.cells #[.int .i64 c,.int .i64 n,.int .i64 k,.int .i64 p,.string s,.slice a1 m cap1,.int .i64 tc,.int .i64 tn,.bool on] 44):=hX3▸alloc_last _ _ _ rfl
      clear hX3
      have hcc:=hc2.trans (hc3.mono hc2.size)
      have hb3':=(hcc.block _ hlt1).trans hb1
      have hr3:=hr1.below hcc
      have hrw3:=hrw.below hc3
      have HW3:Hid (Rw cellV 2 X3 aR nR cR R∧Holds w2 q R X3):=⟨HRW1.out.1.below hcc,HRW1.out.2.still hcc⟩
      have hH3:=hH1.trans (hcc.mono hH1.size)
      have hlt3:=(Array.getElem?_eq_some_iff.1 ho3).1
      have hlt3':=(Array.getElem?_eq_some_iff.1 hb3').1
      clear hc2 hc3 hcc hb1 hH1 hr1 hrw hlt1 HRW1 hqs
      obtain ⟨x0,x1,x2,x3,x4,x5,x6,x7,x8,x9,x10,x11,x12,x13,x14,x15,x16,x17,x18,x19,x20⟩:=box21 hb3'
      obtain ⟨y0,y1,y2,y3,y4,y5,y6,y7,y8⟩:=box9 ho3
      have hl3:Sp.Rng X3 a1 m cap1 l:=rng_of_rw (rw_frontK hrw3 hr3.len)
      have T2:=asks_6 (c:=c) (n:=n) (k:=k) (p:=p) (s:=s) (tc:=tc) (tn:=tn) (on:=on) (c2:=c2) (n2:=n2) (k2:=k2) (p2:=p2) (tc2:=tc2) (tn2:=tn2) (tot:=tot) (s2:=s2) (ln:=ln) (on2:=on2) (b2:=b2) (m2:=m2) (cap2:=cap2) hl3 hr3 hsx HR2.out.2.2.1 (HBAR.out.below hH3)
      have HBX:Hid (X3.rangeAt wr.heap.size 0 [.int .i64 6,.int .i64 c,.int .i64 n,.int .i64 k,.int .i64 p,.string s,.slice a m cap,.int .i64 tc,.int .i64 tn,.bool on,.int .i64 c2,.int .i64 n2,.int .i64 k2,.int .i64 p2,.string s2,.slice b2 m2 cap2,.int .i64 tc2,.int .i64 tn2,.bool on2,.int .i64 tot,.string ln]):=range_block hb3'
      clear hH3
      go_wp2_with (refine wpList_load_mid rfl 46 _ rfl wr.heap.size 0 rfl [.int .i64 6,.int .i64 c,.int .i64 n,.int .i64 k,.int .i64 p,.string s,.slice a m cap,.int .i64 tc,.int .i64 tn,.bool on,.int .i64 c2,.int .i64 n2,.int .i64 k2,.int .i64 p2,.string s2,.slice b2 m2 cap2,.int .i64 tc2,.int .i64 tn2,.bool on2,.int .i64 tot,.string ln] _ HBX.out Tryz.underlying46 rfl (by kernel_rfl) ?_)
      refine T2.mono ?_
      clear HBX
      rintro e X4 ⟨rfl,hc4⟩
      clear T2
      clear x0 x1 x2 x3 x4 x5 x6 x7 x8 x9 x10 x11 x12 x13 x14 x15 x16 x17 x18 x19 x20
      clear y0 y1 y2 y3 y4 y5 y6 y7 y8
      have hb4:=(hc4.block _ hlt3').trans hb3'
      have ho4:=(hc4.block _ hlt3).trans ho3
      have HW4:Hid (Rw cellV 2 X4 aR nR cR R∧Holds w2 q R X4):=⟨HW3.out.1.below hc4,HW3.out.2.still hc4⟩
      have hr4:=hr3.below hc4
      have hrw4:=hrw3.below hc4
      have hl4:=hl3.below hc4
      clear hb3' ho3 HW3 hr3 hrw3 hl3
      obtain ⟨x0,x1,x2,x3,x4,x5,x6,x7,x8,x9,x10,x11,x12,x13,x14,x15,x16,x17,x18,x19,x20⟩:=box21 hb4
      obtain ⟨y0,y1,y2,y3,y4,y5,y6,y7,y8⟩:=box9 ho4
      have T3:=gEqual_self (o:=⟨c,n,k,p,s,l,tc,tn,on⟩) hl4 hr4
      simp only [opVal] at T3
      go_wp2_with fail
      refine T3.mono ?_
      rintro e X5 ⟨rfl,hc5⟩
      clear T3
      clear x0 x1 x2 x3 x4 x5 x6 x7 x8 x9 x10 x11 x12 x13 x14 x15 x16 x17 x18 x19 x20
      clear y0 y1 y2 y3 y4 y5 y6 y7 y8
      have hs4:=hc4.size
      have ho5:=(hc5.block _ (by omega)).trans ho4
      have HW5:Hid (Rw cellV 2 X5 aR nR cR R∧Holds w2 q R X5):=⟨HW4.out.1.below hc5,HW4.out.2.still hc5⟩
      have hrw5:=hrw4.below hc5
      clear hb4 ho4 HW4 hr4 hrw4 hl4 hc4
      obtain ⟨y0,y1,y2,y3,y4,y5,y6,y7,y8⟩:=box9 ho5
      have T4:=spare_any (o:=⟨c,n,k,p,s,l,tc,tn,on⟩) hrw5
      simp only [opVal] at T4
      go_wp2_with fail
      refine T4.mono ?_
      rintro e X6 ⟨rfl,hc6⟩
      have hRw6:=HW5.out.1.below hc6
      have hH6:=HW5.out.2.still hc6
      clear T4 hc6 hrw5 ho5 HW5
      clear y0 y1 y2 y3 y4 y5 y6 y7 y8
      go_wp2_with fail
      go_roundw
      case rel=>first|exact ⟨i+1,R,aR,nR,cR,by go_num,rfl,by omega,hH6,HRI.out,hRw6⟩|((repeat apply Exists.intro);exact ⟨⟨i+1,R,aR,nR,cR,by go_num,rfl,by omega,hH6,HRI.out,hRw6⟩,rfl⟩)
      case measure=>simp [RowKit.intOf];omega
     ·have T1:=copied4S_any (o:=⟨c,n,k,p,s,l,tc,tn,on⟩) hr1 hmx
      simp only [opVal] at T1
      go_wp2_with fail
      refine T1.mono ?_
      rintro e X2 ⟨a1,cap1,rfl,hrw,hc2⟩
      clear T1
      clear x0 x1 x2 x3 x4 x5 x6 x7 x8 x9 x10 x11 x12 x13 x14 x15 x16 x17 x18 x19 x20
      go_upto_region 12 with fail
      generalize hX3:X2.alloc (Obj.cells #[.int .i64 c,.int .i64 n,.int .i64 k,.int .i64 p,.string s,.slice a1 m cap1,.int .i64 tc,.int .i64 tn,.bool on] 44)=X3
      have hc3:Below X2.heap.size X2 X3:=hX3▸(Below.refl X2.heap.size X2).alloc (Nat.le_refl _) _
      have ho3:X3.heap[X2.heap.size]?=some (.cells #[.int .i64 c,.int .i64 n,.int .i64 k,.int .i64 p,.string s,.slice a1 m cap1,.int .i64 tc,.int .i64 tn,.bool on] 44):=hX3▸alloc_last _ _ _ rfl
      clear hX3
      have hcc:=hc2.trans (hc3.mono hc2.size)
      have hb3':=(hcc.block _ hlt1).trans hb1
      have hr3:=hr1.below hcc
      have hrw3:=hrw.below hc3
      have hqo:X2.heap.size≠q:=(HRW1.out.2.still hc2).ne (Nat.le_refl _)
      have hH3:=HRW1.out.2.still hcc
      have hRw3:=HRW1.out.1.below hcc
      clear hc2 hc3 hcc hb1 hH1 hr1 hrw hlt1 HRW1
      obtain ⟨x0,x1,x2,x3,x4,x5,x6,x7,x8,x9,x10,x11,x12,x13,x14,x15,x16,x17,x18,x19,x20⟩:=box21 hb3'
      obtain ⟨y0,y1,y2,y3,y4,y5,y6,y7,y8⟩:=box9 ho3
      have hl3:Sp.Rng X3 a1 m cap1 l:=rng_of_rw (rw_front hrw3 hr3.len)
      obtain ⟨R',C,hA1,hRI',hA2⟩:=apply_both (c:=c) (n:=n) (k:=k) (p:=p) (tc:=tc) (tn:=tn) (on:=on) hH3 hq3 HBAR.out HRI.out hl3 hsx
      have HA2:Hid (∀ (X5:World) (aR:Option Addr) (nR cR:Nat) (a:Option Addr) (cap:Nat),Rw cellV 2 X5 aR nR cR R→Sp.Rng X5 a m cap l→Calls Tryz.prog 12 #[.slice aR nR cR,opVal ⟨c,n,k,p,s,l,tc,tn,on⟩ (.slice a m cap)] X5 fun e w'=>∃ a' n' c',e=.returned (.tuple #[.slice a' n' c',.int .i64 C])∧Rw cellV 2 w' a' n' c' R'∧Below X5.heap.size X5 w'):=hA2
      have HRI':Hid (RowIn R'):=hRI'
      clear hA2 hRI'
      simp only [opVal] at hA1
      go_wp2_with fail
      refine hA1.mono ?_
      rintro e X4 ⟨rfl,hH4,hU4⟩
      clear x0 x1 x2 x3 x4 x5 x6 x7 x8 x9 x10 x11 x12 x13 x14 x15 x16 x17 x18 x19 x20
      clear y0 y1 y2 y3 y4 y5 y6 y7 y8
      have hb4:=hU4.box hb3' hqs
      have ho4:=hU4.box ho3 hqo
      have hRw4:=hH3.cellU hU4 hRw3
      have hrw4:Rw rngV 2 X4 a1 (m+2) cap1 (l++[(-7,-8),(-9,-9)]):=hH3.pieceU hU4 hrw3
      have hr4:=HRX.out.below hH4.below
      clear hA1 hb3' ho3 hRw3 hrw3 hr3 hl3 hH3 hU4
      obtain ⟨x0,x1,x2,x3,x4,x5,x6,x7,x8,x9,x10,x11,x12,x13,x14,x15,x16,x17,x18,x19,x20⟩:=box21 hb4
      have T3:=HA2.out X4 aR nR cR a cap hRw4 hr4
      simp only [opVal] at T3
      go_wp2_with fail
      refine T3.mono ?_
      rintro e X5 ⟨a5,n5,c5,rfl,hRw5,hc5⟩
      clear x0 x1 x2 x3 x4 x5 x6 x7 x8 x9 x10 x11 x12 x13 x14 x15 x16 x17 x18 x19 x20
      have hb5:=(hc5.block _ (Array.getElem?_eq_some_iff.1 hb4).1).trans hb4
      have ho5:=(hc5.block _ (Array.getElem?_eq_some_iff.1 ho4).1).trans ho4
      have hrw5:=hrw4.below hc5
      have hH5:=hH4.still hc5
      clear T3 hb4 ho4 hrw4 hr4 hRw4 hH4 hc5 HA2
      have T4:=hH5.runsR HRI'.out.ok
      go_wp2_with fail
      refine T4.mono ?_
      rintro e X6 ⟨a6,c6,rfl,hRr,hH6,hc6⟩
      have hb6:=(hc6.block _ (Array.getElem?_eq_some_iff.1 hb5).1).trans hb5
      have ho6:=(hc6.block _ (Array.getElem?_eq_some_iff.1 ho5).1).trans ho5
      have hrw6:=hrw5.below hc6
      have hRw6:=hRw5.below hc6
      clear T4 hb5 ho5 hrw5 hRw5 hH5 hc6
      have hlen5:=hRw6.len
      have T5:=runsW_any hRw6 (by rw [← hlen5];exact HRI'.out.len) HRI'.out.ok HRI'.out.cnt
      have hq5:(C==C)=true:=by simp
      obtain ⟨nr,hnr⟩:∃ nr,(rowRuns R').length=nr:=⟨_,rfl⟩
      have HNR:Hid ((rowRuns R').length=nr):=hnr
      rw [hnr] at hRr ⊢
      clear hnr
      go_wp2_with fail
      refine T5.mono ?_
      rintro e X7 ⟨v7,L7,rfl,ho7,hF7,hcl7,hc7⟩
      obtain ⟨a7,c7,rfl⟩:=ho7.shape
      have e7:rowRuns R'=L7:=by rw [← hcl7];exact rowRuns_same hF7
      have hRr7:=hRr.below hc7
      rw [e7] at hRr7
      have hRn7:=ho7.rw_ layR
      have T6:=sameRuns_any hRr7 hRn7 (by rw [← HNR.out];exact Nat.le_trans (rowRuns_len R') HRI'.out.len)
      have hb7:=(hc7.block _ (Array.getElem?_eq_some_iff.1 hb6).1).trans hb6
      have ho7':=(hc7.block _ (Array.getElem?_eq_some_iff.1 ho6).1).trans ho6
      have hrw7:=hrw6.below hc7
      have hRw7:=hRw6.below hc7
      have hH7:=hH6.still hc7
      obtain ⟨n7,hn7⟩:∃ n7,L7.length=n7:=⟨_,rfl⟩
      rw [hn7] at T6 ⊢
      clear T5 hb6 ho6 hrw6 hRw6 hH6 hc7 ho7 hF7 hcl7 hRr hRr7 hRn7 e7 hn7 hlen5
      go_wp2_with fail
      refine T6.mono ?_
      rintro e X8 ⟨rfl,hc8⟩
      have hb8:=(hc8.block _ (Array.getElem?_eq_some_iff.1 hb7).1).trans hb7
      have ho8:=(hc8.block _ (Array.getElem?_eq_some_iff.1 ho7').1).trans ho7'
      have hrw8:=hrw7.below hc8
      have hRw8:=hRw7.below hc8
      have hH8:=hH7.still hc8
      have hr8:=HRX.out.below hH8.below
      have hl8:Sp.Rng X8 a1 m cap1 l:=rng_of_rw (rw_front hrw8 hr8.len)
      clear T6 hb7 ho7' hrw7 hRw7 hH7 hc8
      obtain ⟨x0,x1,x2,x3,x4,x5,x6,x7,x8,x9,x10,x11,x12,x13,x14,x15,x16,x17,x18,x19,x20⟩:=box21 hb8
      obtain ⟨y0,y1,y2,y3,y4,y5,y6,y7,y8⟩:=box9 ho8
      have T7:=gEqual_self (o:=⟨c,n,k,p,s,l,tc,tn,on⟩) hl8 hr8
      simp only [opVal] at T7
      go_wp2_with fail
      refine T7.mono ?_
      rintro e X9 ⟨rfl,hc9⟩
      clear T7
      clear x0 x1 x2 x3 x4 x5 x6 x7 x8 x9 x10 x11 x12 x13 x14 x15 x16 x17 x18 x19 x20
      clear y0 y1 y2 y3 y4 y5 y6 y7 y8
      have ho9:=(hc9.block _ (Array.getElem?_eq_some_iff.1 ho8).1).trans ho8
      have hrw9:=hrw8.below hc9
      have hRw9:=hRw8.below hc9
      have hH9:=hH8.still hc9
      clear hb8 ho8 hrw8 hRw8 hH8 hr8 hl8 hc9
      obtain ⟨y0,y1,y2,y3,y4,y5,y6,y7,y8⟩:=box9 ho9
      have T8:=spare_any (o:=⟨c,n,k,p,s,l,tc,tn,on⟩) hrw9
      simp only [opVal] at T8
      go_wp2_with fail
      refine T8.mono ?_
      rintro e X10 ⟨rfl,hc10⟩
      have hH10:=hH9.still hc10
      have hRw10:=hRw9.below hc10
      clear T8 hc10 hrw9 ho9 hH9 hRw9
      clear y0 y1 y2 y3 y4 y5 y6 y7 y8
      go_wp2_with fail
      go_roundw
      case rel=>first|exact ⟨i+1,R',a5,n5,c5,by go_num,rfl,by omega,hH10,HRI'.out,hRw10⟩|((repeat apply Exists.intro);exact ⟨⟨i+1,R',a5,n5,c5,by go_num,rfl,by omega,hH10,HRI'.out,hRw10⟩,rfl⟩)
      case measure=>simp [RowKit.intOf];omega
     ·have T1:=copied4S_any (o:=⟨c,n,k,p,s,l,tc,tn,on⟩) hr1 hmx
      simp only [opVal] at T1
      go_wp2_with fail
      refine T1.mono ?_
      rintro e X2 ⟨a1,cap1,rfl,hrw,hc2⟩
      clear T1
      clear x0 x1 x2 x3 x4 x5 x6 x7 x8 x9 x10 x11 x12 x13 x14 x15 x16 x17 x18 x19 x20
      go_upto_region 12 with fail
      generalize hX3:X2.alloc (Obj.cells #[.int .i64 c,.int .i64 n,.int .i64 k,.int .i64 p,.string s,.slice a1 m cap1,.int .i64 tc,.int .i64 tn,.bool on] 44)=X3
      have hc3:Below X2.heap.size X2 X3:=hX3▸(Below.refl X2.heap.size X2).alloc (Nat.le_refl _) _
      have ho3:X3.heap[X2.heap.size]?=some (.cells #[.int .i64 c,.int .i64 n,.int .i64 k,.int .i64 p,.string s,.slice a1 m cap1,.int .i64 tc,.int .i64 tn,.bool on] 44):=hX3▸alloc_last _ _ _ rfl
      clear hX3
      have hcc:=hc2.trans (hc3.mono hc2.size)
      have hb3':=(hcc.block _ hlt1).trans hb1
      have hr3:=hr1.below hcc
      have hrw3:=hrw.below hc3
      have HW3:Hid (Rw cellV 2 X3 aR nR cR R∧Holds w2 q R X3):=⟨HRW1.out.1.below hcc,HRW1.out.2.still hcc⟩
      have hH3:=hH1.trans (hcc.mono hH1.size)
      have hlt3:=(Array.getElem?_eq_some_iff.1 ho3).1
      have hlt3':=(Array.getElem?_eq_some_iff.1 hb3').1
      clear hc2 hc3 hcc hb1 hH1 hr1 hrw hlt1 HRW1 hqs
      obtain ⟨x0,x1,x2,x3,x4,x5,x6,x7,x8,x9,x10,x11,x12,x13,x14,x15,x16,x17,x18,x19,x20⟩:=box21 hb3'
      obtain ⟨y0,y1,y2,y3,y4,y5,y6,y7,y8⟩:=box9 ho3
      have hl3:Sp.Rng X3 a1 m cap1 l:=rng_of_rw (rw_frontK hrw3 hr3.len)
      have T2:=asks_8 (c:=c) (n:=n) (k:=k) (p:=p) (s:=s) (tc:=tc) (tn:=tn) (on:=on) (c2:=c2) (n2:=n2) (k2:=k2) (p2:=p2) (tc2:=tc2) (tn2:=tn2) (tot:=tot) (s2:=s2) (ln:=ln) (on2:=on2) (b2:=b2) (m2:=m2) (cap2:=cap2) hl3 hr3 hsx HR2.out.2.2.1 (HTB.out.below hH3)
      have HBX:Hid (X3.rangeAt wr.heap.size 0 [.int .i64 8,.int .i64 c,.int .i64 n,.int .i64 k,.int .i64 p,.string s,.slice a m cap,.int .i64 tc,.int .i64 tn,.bool on,.int .i64 c2,.int .i64 n2,.int .i64 k2,.int .i64 p2,.string s2,.slice b2 m2 cap2,.int .i64 tc2,.int .i64 tn2,.bool on2,.int .i64 tot,.string ln]):=range_block hb3'
      clear hH3
      go_wp2_with (refine wpList_load_mid rfl 46 _ rfl wr.heap.size 0 rfl [.int .i64 8,.int .i64 c,.int .i64 n,.int .i64 k,.int .i64 p,.string s,.slice a m cap,.int .i64 tc,.int .i64 tn,.bool on,.int .i64 c2,.int .i64 n2,.int .i64 k2,.int .i64 p2,.string s2,.slice b2 m2 cap2,.int .i64 tc2,.int .i64 tn2,.bool on2,.int .i64 tot,.string ln] _ HBX.out Tryz.underlying46 rfl (by kernel_rfl) ?_)
      refine T2.mono ?_
      clear HBX
      rintro e X4 ⟨rfl,hc4⟩
      clear T2
      clear x0 x1 x2 x3 x4 x5 x6 x7 x8 x9 x10 x11 x12 x13 x14 x15 x16 x17 x18 x19 x20
      clear y0 y1 y2 y3 y4 y5 y6 y7 y8
      have hb4:=(hc4.block _ hlt3').trans hb3'
      have ho4:=(hc4.block _ hlt3).trans ho3
      have HW4:Hid (Rw cellV 2 X4 aR nR cR R∧Holds w2 q R X4):=⟨HW3.out.1.below hc4,HW3.out.2.still hc4⟩
      have hr4:=hr3.below hc4
      have hrw4:=hrw3.below hc4
      have hl4:=hl3.below hc4
      clear hb3' ho3 HW3 hr3 hrw3 hl3
      obtain ⟨x0,x1,x2,x3,x4,x5,x6,x7,x8,x9,x10,x11,x12,x13,x14,x15,x16,x17,x18,x19,x20⟩:=box21 hb4
      obtain ⟨y0,y1,y2,y3,y4,y5,y6,y7,y8⟩:=box9 ho4
      have T3:=gEqual_self (o:=⟨c,n,k,p,s,l,tc,tn,on⟩) hl4 hr4
      simp only [opVal] at T3
      go_wp2_with fail
      refine T3.mono ?_
      rintro e X5 ⟨rfl,hc5⟩
      clear T3
      clear x0 x1 x2 x3 x4 x5 x6 x7 x8 x9 x10 x11 x12 x13 x14 x15 x16 x17 x18 x19 x20
      clear y0 y1 y2 y3 y4 y5 y6 y7 y8
      have hs4:=hc4.size
      have ho5:=(hc5.block _ (by omega)).trans ho4
      have HW5:Hid (Rw cellV 2 X5 aR nR cR R∧Holds w2 q R X5):=⟨HW4.out.1.below hc5,HW4.out.2.still hc5⟩
      have hrw5:=hrw4.below hc5
      clear hb4 ho4 HW4 hr4 hrw4 hl4 hc4
      obtain ⟨y0,y1,y2,y3,y4,y5,y6,y7,y8⟩:=box9 ho5
      have T4:=spare_any (o:=⟨c,n,k,p,s,l,tc,tn,on⟩) hrw5
      simp only [opVal] at T4
      go_wp2_with fail
      refine T4.mono ?_
      rintro e X6 ⟨rfl,hc6⟩
      have hRw6:=HW5.out.1.below hc6
      have hH6:=HW5.out.2.still hc6
      clear T4 hc6 hrw5 ho5 HW5
      clear y0 y1 y2 y3 y4 y5 y6 y7 y8
      go_wp2_with fail
      go_roundw
      case rel=>first|exact ⟨i+1,R,aR,nR,cR,by go_num,rfl,by omega,hH6,HRI.out,hRw6⟩|((repeat apply Exists.intro);exact ⟨⟨i+1,R,aR,nR,cR,by go_num,rfl,by omega,hH6,HRI.out,hRw6⟩,rfl⟩)
      case measure=>simp [RowKit.intOf];omega
     ·have T1:=copied4S_any (o:=⟨c,n,k,p,s,l,tc,tn,on⟩) hr1 hmx
      simp only [opVal] at T1
      go_wp2_with fail
      refine T1.mono ?_
      rintro e X2 ⟨a1,cap1,rfl,hrw,hc2⟩
      clear T1
      clear x0 x1 x2 x3 x4 x5 x6 x7 x8 x9 x10 x11 x12 x13 x14 x15 x16 x17 x18 x19 x20
      go_upto_region 12 with fail
      generalize hX3:X2.alloc (Obj.cells #[.int .i64 c,.int .i64 n,.int .i64 k,.int .i64 p,.string s,.slice a1 m cap1,.int .i64 tc,.int .i64 tn,.bool on] 44)=X3
      have hc3:Below X2.heap.size X2 X3:=hX3▸(Below.refl X2.heap.size X2).alloc (Nat.le_refl _) _
      have ho3:X3.heap[X2.heap.size]?=some (.cells #[.int .i64 c,.int .i64 n,.int .i64 k,.int .i64 p,.string s,.slice a1 m cap1,.int .i64 tc,.int .i64 tn,.bool on] 44):=hX3▸alloc_last _ _ _ rfl
      clear hX3
      have hcc:=hc2.trans (hc3.mono hc2.size)
      have hb3':=(hcc.block _ hlt1).trans hb1
      have hr3:=hr1.below hcc
      have hrw3:=hrw.below hc3
      have HW3:Hid (Rw cellV 2 X3 aR nR cR R∧Holds w2 q R X3):=⟨HRW1.out.1.below hcc,HRW1.out.2.still hcc⟩
      have hH3:=hH1.trans (hcc.mono hH1.size)
      have hlt3:=(Array.getElem?_eq_some_iff.1 ho3).1
      have hlt3':=(Array.getElem?_eq_some_iff.1 hb3').1
      clear hc2 hc3 hcc hb1 hH1 hr1 hrw hlt1 HRW1 hqs
      obtain ⟨x0,x1,x2,x3,x4,x5,x6,x7,x8,x9,x10,x11,x12,x13,x14,x15,x16,x17,x18,x19,x20⟩:=box21 hb3'
      obtain ⟨y0,y1,y2,y3,y4,y5,y6,y7,y8⟩:=box9 ho3
      have hl3:Sp.Rng X3 a1 m cap1 l:=rng_of_rw (rw_frontK hrw3 hr3.len)
      have T2:=asks_9 (c:=c) (n:=n) (k:=k) (p:=p) (s:=s) (tc:=tc) (tn:=tn) (on:=on) (c2:=c2) (n2:=n2) (k2:=k2) (p2:=p2) (tc2:=tc2) (tn2:=tn2) (tot:=tot) (s2:=s2) (ln:=ln) (on2:=on2) (b2:=b2) (m2:=m2) (cap2:=cap2) hl3 hr3 hsx HR2.out.2.2.1 (HTB.out.below hH3) HR2.out.2.2.2
      have HBX:Hid (X3.rangeAt wr.heap.size 0 [.int .i64 9,.int .i64 c,.int .i64 n,.int .i64 k,.int .i64 p,.string s,.slice a m cap,.int .i64 tc,.int .i64 tn,.bool on,.int .i64 c2,.int .i64 n2,.int .i64 k2,.int .i64 p2,.string s2,.slice b2 m2 cap2,.int .i64 tc2,.int .i64 tn2,.bool on2,.int .i64 tot,.string ln]):=range_block hb3'
      clear hH3
      go_wp2_with (refine wpList_load_mid rfl 46 _ rfl wr.heap.size 0 rfl [.int .i64 9,.int .i64 c,.int .i64 n,.int .i64 k,.int .i64 p,.string s,.slice a m cap,.int .i64 tc,.int .i64 tn,.bool on,.int .i64 c2,.int .i64 n2,.int .i64 k2,.int .i64 p2,.string s2,.slice b2 m2 cap2,.int .i64 tc2,.int .i64 tn2,.bool on2,.int .i64 tot,.string ln] _ HBX.out Tryz.underlying46 rfl (by kernel_rfl) ?_)
      refine T2.mono ?_
      clear HBX
      rintro e X4 ⟨rfl,hc4⟩
      clear T2
      clear x0 x1 x2 x3 x4 x5 x6 x7 x8 x9 x10 x11 x12 x13 x14 x15 x16 x17 x18 x19 x20
      clear y0 y1 y2 y3 y4 y5 y6 y7 y8
      have hb4:=(hc4.block _ hlt3').trans hb3'
      have ho4:=(hc4.block _ hlt3).trans ho3
      have HW4:Hid (Rw cellV 2 X4 aR nR cR R∧Holds w2 q R X4):=⟨HW3.out.1.below hc4,HW3.out.2.still hc4⟩
      have hr4:=hr3.below hc4
      have hrw4:=hrw3.below hc4
      have hl4:=hl3.below hc4
      clear hb3' ho3 HW3 hr3 hrw3 hl3
      obtain ⟨x0,x1,x2,x3,x4,x5,x6,x7,x8,x9,x10,x11,x12,x13,x14,x15,x16,x17,x18,x19,x20⟩:=box21 hb4
      obtain ⟨y0,y1,y2,y3,y4,y5,y6,y7,y8⟩:=box9 ho4
      have T3:=gEqual_self (o:=⟨c,n,k,p,s,l,tc,tn,on⟩) hl4 hr4
      simp only [opVal] at T3
      go_wp2_with fail
      refine T3.mono ?_
      rintro e X5 ⟨rfl,hc5⟩
      clear T3
      clear x0 x1 x2 x3 x4 x5 x6 x7 x8 x9 x10 x11 x12 x13 x14 x15 x16 x17 x18 x19 x20
      clear y0 y1 y2 y3 y4 y5 y6 y7 y8
      have hs4:=hc4.size
      have ho5:=(hc5.block _ (by omega)).trans ho4
      have HW5:Hid (Rw cellV 2 X5 aR nR cR R∧Holds w2 q R X5):=⟨HW4.out.1.below hc5,HW4.out.2.still hc5⟩
      have hrw5:=hrw4.below hc5
      clear hb4 ho4 HW4 hr4 hrw4 hl4 hc4
      obtain ⟨y0,y1,y2,y3,y4,y5,y6,y7,y8⟩:=box9 ho5
      have T4:=spare_any (o:=⟨c,n,k,p,s,l,tc,tn,on⟩) hrw5
      simp only [opVal] at T4
      go_wp2_with fail
      refine T4.mono ?_
      rintro e X6 ⟨rfl,hc6⟩
      have hRw6:=HW5.out.1.below hc6
      have hH6:=HW5.out.2.still hc6
      clear T4 hc6 hrw5 ho5 HW5
      clear y0 y1 y2 y3 y4 y5 y6 y7 y8
      go_wp2_with fail
      go_roundw
      case rel=>first|exact ⟨i+1,R,aR,nR,cR,by go_num,rfl,by omega,hH6,HRI.out,hRw6⟩|((repeat apply Exists.intro);exact ⟨⟨i+1,R,aR,nR,cR,by go_num,rfl,by omega,hH6,HRI.out,hRw6⟩,rfl⟩)
      case measure=>simp [RowKit.intOf];omega
  ·by_cases hin1:i<nS
   ·have b1:(i:Int)<(nS:Int):=by omega
    have b2:¬ (i:Int)<60:=fun e=>hin ⟨hin1,by omega⟩
    clear hin
    go_wp2_with fail
    go_ret
    exact ⟨rfl,HB2.out.trans (hH.mono HB2.out.size)⟩
   ·have b1:¬ (i:Int)<(nS:Int):=by omega
    clear hin
    go_wp2_with fail
    go_ret
    exact ⟨rfl,HB2.out.trans (hH.mono HB2.out.size)⟩
set_option maxHeartbeats 2000000 in
theorem opAll_any {w:World} {aC:Option Addr} {nC cC:Nat} {zs:List (Int×Int)} (hC:Rw cellV 2 w aC nC cC zs) {aS:Option Addr} {nS cS:Nat} {L:List StepV} (hS:Rw stepF 21 w aS nS cS L) (hok:∀ x∈L,StepOk3 w x) (hTab:Tabq w) :
  Calls Tryz.prog 4 #[.agg #[.slice aC nC cC,.slice aS nS cS]] w fun e w'=>e=.returned (.bool true)∧Below w.heap.size w w':=by
 go_enter Tryz.func4,Tryz.ntmps4
 go_wp2_with fail
 have hB0:Below w.heap.size w (w.alloc (Obj.cells #[.slice aC nC cC,.slice aS nS cS] 25)):=(Below.refl w.heap.size w).alloc (Nat.le_refl _) _
 refine (kinds19_any (hC.below hB0) (hS.below hB0) (fun x hx=>(hok x hx).below hB0) (hTab.below hB0)).mono ?_
 rintro e w1 ⟨rfl,hb1⟩
 have hB1:=hB0.trans (hb1.mono hB0.size)
 clear hb1
 go_wp2_with fail
 go_ret
 exact ⟨rfl,hB1⟩
end Go.Proofs.YtijpfbcippijoaaGreatDoor
