import Derived.Test.YtijpfbcippijoaaGreatDoorGr124
import Derived.Test.YtijpfbcippijoaaGreatDoorGr110
import Derived.Deep.RegionHeld3
import Derived.Test.YtijpfbcippijoaaGreatDoorGr136
namespace Go.Proofs.YtijpfbcippijoaaGreatDoor
open Go.RowKit Go.Lib Sp
set_option maxRecDepth 100000
def coveredP (o:OpV):List (Int×Int):=if o.k=1 then [(o.p,o.p+widthP o)] else o.l
set_option maxHeartbeats 2000000 in
theorem covered_1 {c n p:Int} {s:ByteArray} {l:List (Int×Int)} {tc tn:Int} {on:Bool} {w:World} {a:Option Addr} {m cap:Nat} (hs:s.size≤9223372036854775807) (hw:Bar w) (h0:0≤p) (h1:p≤1048576) (h2:(check s).1≤1048576) :
  Calls Tryz.prog 72 #[opVal ⟨c,n,1,p,s,l,tc,tn,on⟩ (.slice a m cap)] w fun e w'=>∃ v,e=.returned v∧OwnF rngV 2 76 w' (w.heap.size+1) v [(p,p+(check s).1)]∧Below w.heap.size w w':=by
 have h3:=check_nonneg s
 have HW:Hid (∀ w':World,Below w.heap.size w w'→Calls Tryz.prog 19 #[opVal ⟨c,n,1,p,s,l,tc,tn,on⟩ (.slice a m cap)] w' fun e w''=>e=.returned (.int .i64 (check s).1)∧Below w'.heap.size w' w''):=fun w' hb=>width_any (o:=⟨c,n,1,p,s,l,tc,tn,on⟩) (v:=.slice a m cap) (w:=w') hs (hw.below hb)
 clear hs hw
 generalize (check s).1=wd at *
 simp only [opVal] at *
 have hw2:=(Below.refl w.heap.size w).alloc (Nat.le_refl _) (Obj.cells #[.int .i64 c,.int .i64 n,.int .i64 1,.int .i64 p,.string s,.slice a m cap,.int .i64 tc,.int .i64 tn,.bool on] 44)
 have k0:(w.alloc (Obj.cells #[.int .i64 c,.int .i64 n,.int .i64 1,.int .i64 p,.string s,.slice a m cap,.int .i64 tc,.int .i64 tn,.bool on] 44)).cell? ⟨w.heap.size,0,none⟩=some (.int .i64 c):=World.cell?_alloc_mark ..
 have k1:(w.alloc (Obj.cells #[.int .i64 c,.int .i64 n,.int .i64 1,.int .i64 p,.string s,.slice a m cap,.int .i64 tc,.int .i64 tn,.bool on] 44)).cell? ⟨w.heap.size,1,none⟩=some (.int .i64 n):=World.cell?_alloc_mark ..
 have k2:(w.alloc (Obj.cells #[.int .i64 c,.int .i64 n,.int .i64 1,.int .i64 p,.string s,.slice a m cap,.int .i64 tc,.int .i64 tn,.bool on] 44)).cell? ⟨w.heap.size,2,none⟩=some (.int .i64 1):=World.cell?_alloc_mark ..
 have k3:(w.alloc (Obj.cells #[.int .i64 c,.int .i64 n,.int .i64 1,.int .i64 p,.string s,.slice a m cap,.int .i64 tc,.int .i64 tn,.bool on] 44)).cell? ⟨w.heap.size,3,none⟩=some (.int .i64 p):=World.cell?_alloc_mark ..
 have k4:(w.alloc (Obj.cells #[.int .i64 c,.int .i64 n,.int .i64 1,.int .i64 p,.string s,.slice a m cap,.int .i64 tc,.int .i64 tn,.bool on] 44)).cell? ⟨w.heap.size,4,none⟩=some (.string s):=World.cell?_alloc_mark ..
 have k5:(w.alloc (Obj.cells #[.int .i64 c,.int .i64 n,.int .i64 1,.int .i64 p,.string s,.slice a m cap,.int .i64 tc,.int .i64 tn,.bool on] 44)).cell? ⟨w.heap.size,5,none⟩=some (.slice a m cap):=World.cell?_alloc_mark ..
 have k6:(w.alloc (Obj.cells #[.int .i64 c,.int .i64 n,.int .i64 1,.int .i64 p,.string s,.slice a m cap,.int .i64 tc,.int .i64 tn,.bool on] 44)).cell? ⟨w.heap.size,6,none⟩=some (.int .i64 tc):=World.cell?_alloc_mark ..
 have k7:(w.alloc (Obj.cells #[.int .i64 c,.int .i64 n,.int .i64 1,.int .i64 p,.string s,.slice a m cap,.int .i64 tc,.int .i64 tn,.bool on] 44)).cell? ⟨w.heap.size,7,none⟩=some (.int .i64 tn):=World.cell?_alloc_mark ..
 have k8:(w.alloc (Obj.cells #[.int .i64 c,.int .i64 n,.int .i64 1,.int .i64 p,.string s,.slice a m cap,.int .i64 tc,.int .i64 tn,.bool on] 44)).cell? ⟨w.heap.size,8,none⟩=some (.bool on):=World.cell?_alloc_mark ..
 have hk:w.heap.size<(w.alloc (Obj.cells #[.int .i64 c,.int .i64 n,.int .i64 1,.int .i64 p,.string s,.slice a m cap,.int .i64 tc,.int .i64 tn,.bool on] 44)).heap.size:=by simp
 have hcur:Below (w.alloc (Obj.cells #[.int .i64 c,.int .i64 n,.int .i64 1,.int .i64 p,.string s,.slice a m cap,.int .i64 tc,.int .i64 tn,.bool on] 44)).heap.size (w.alloc (Obj.cells #[.int .i64 c,.int .i64 n,.int .i64 1,.int .i64 p,.string s,.slice a m cap,.int .i64 tc,.int .i64 tn,.bool on] 44)) (w.alloc (Obj.cells #[.int .i64 c,.int .i64 n,.int .i64 1,.int .i64 p,.string s,.slice a m cap,.int .i64 tc,.int .i64 tn,.bool on] 44)):=Below.refl _ _
 have g1:IntKind.i64.wrap (p+wd)=p+wd:=IntWalk.i64_in _ (by omega)
 go_enter Tryz.func72,Tryz.ntmps72
 go_wp2_with fail
 go_region_held3 (fun W=>W.cell? ⟨w.heap.size,0,none⟩=some (.int .i64 c)∧W.cell? ⟨w.heap.size,1,none⟩=some (.int .i64 n)∧W.cell? ⟨w.heap.size,2,none⟩=some (.int .i64 1)∧W.cell? ⟨w.heap.size,3,none⟩=some (.int .i64 p)∧W.cell? ⟨w.heap.size,4,none⟩=some (.string s)∧W.cell? ⟨w.heap.size,5,none⟩=some (.slice a m cap)∧W.cell? ⟨w.heap.size,6,none⟩=some (.int .i64 tc)∧W.cell? ⟨w.heap.size,7,none⟩=some (.int .i64 tn)∧W.cell? ⟨w.heap.size,8,none⟩=some (.bool on)) (first|exact ⟨k0,k1,k2,k3,k4,k5,k6,k7,k8⟩|exact ⟨e0,e1,e2,e3,e4,e5,e6,e7,e8⟩|exact ⟨q0 _,q1 _,q2 _,q3 _,q4 _,q5 _,q6 _,q7 _,q8 _⟩)
   (first
    | (go_at_call 19;refine (HW.out _ ?_).mono ?_;(first|exact hw2.trans (hcur.mono hw2.size)|exact hw2.trans (hcur.drew.mono hw2.size));rintro e w1 ⟨rfl,hb1⟩;have hcur:Below (w.alloc (Obj.cells #[.int .i64 c,.int .i64 n,.int .i64 1,.int .i64 p,.string s,.slice a m cap,.int .i64 tc,.int .i64 tn,.bool on] 44)).heap.size (w.alloc (Obj.cells #[.int .i64 c,.int .i64 n,.int .i64 1,.int .i64 p,.string s,.slice a m cap,.int .i64 tc,.int .i64 tn,.bool on] 44)) w1:=(by first|exact hcur.trans (hb1.mono hcur.size)|exact hcur.drew.trans (hb1.mono hcur.size));have e0:=(hcur.cell (p:=⟨w.heap.size,0,none⟩) hk).trans k0;have e1:=(hcur.cell (p:=⟨w.heap.size,1,none⟩) hk).trans k1;have e2:=(hcur.cell (p:=⟨w.heap.size,2,none⟩) hk).trans k2;have e3:=(hcur.cell (p:=⟨w.heap.size,3,none⟩) hk).trans k3;have e4:=(hcur.cell (p:=⟨w.heap.size,4,none⟩) hk).trans k4;have e5:=(hcur.cell (p:=⟨w.heap.size,5,none⟩) hk).trans k5;have e6:=(hcur.cell (p:=⟨w.heap.size,6,none⟩) hk).trans k6;have e7:=(hcur.cell (p:=⟨w.heap.size,7,none⟩) hk).trans k7;have e8:=(hcur.cell (p:=⟨w.heap.size,8,none⟩) hk).trans k8;have hk1:w.heap.size<w1.heap.size:=Nat.lt_of_lt_of_le hk hcur.size;have q0:=fun o=>(World.cell?_alloc_lt w1 o ⟨w.heap.size,0,none⟩ hk1).trans e0;have q1:=fun o=>(World.cell?_alloc_lt w1 o ⟨w.heap.size,1,none⟩ hk1).trans e1;have q2:=fun o=>(World.cell?_alloc_lt w1 o ⟨w.heap.size,2,none⟩ hk1).trans e2;have q3:=fun o=>(World.cell?_alloc_lt w1 o ⟨w.heap.size,3,none⟩ hk1).trans e3;have q4:=fun o=>(World.cell?_alloc_lt w1 o ⟨w.heap.size,4,none⟩ hk1).trans e4;have q5:=fun o=>(World.cell?_alloc_lt w1 o ⟨w.heap.size,5,none⟩ hk1).trans e5;have q6:=fun o=>(World.cell?_alloc_lt w1 o ⟨w.heap.size,6,none⟩ hk1).trans e6;have q7:=fun o=>(World.cell?_alloc_lt w1 o ⟨w.heap.size,7,none⟩ hk1).trans e7;have q8:=fun o=>(World.cell?_alloc_lt w1 o ⟨w.heap.size,8,none⟩ hk1).trans e8))
 all_goals
  have hB1:=hw2.trans (hcur.mono hw2.size)
  have hB2:=hB1.alloc hB1.size (Obj.cells #[.int .i64 p,.int .i64 (p+wd)] 76)
  have hO:Hid (OwnF rngV 2 76 (w1.alloc (Obj.cells #[.int .i64 p,.int .i64 (p+wd)] 76)) (w.heap.size+1) (.slice (some ⟨w1.heap.size,0,none⟩) 1 1) [(p,p+wd)]):=own_lit (alloc_last _ _ _ rfl) (by omega)
  clear q0 q1 q2 q3 q4 q5 q6 q7 q8
  go_wp2_with fail
  go_ret
  exact ⟨_,rfl,hO.out,hB2⟩
set_option maxHeartbeats 1000000 in
theorem covered_other {o:OpV} {w:World} {a:Option Addr} {m cap:Nat} (h:Rng w a m cap o.l) (hm:m≤1000000000) (hk:o.k≠1) :
  Calls Tryz.prog 72 #[opVal o (.slice a m cap)] w fun e w'=>∃ v,e=.returned v∧OwnF rngV 2 76 w' (w.heap.size+1) v o.l∧Below w.heap.size w w':=by
 have HR:Hid (∀ w':World,Below w.heap.size w w'→Calls Tryz.prog 77 #[.slice a m cap] w' fun e w''=>∃ v,e=.returned v∧OwnF rngV 2 76 w'' w'.heap.size v o.l∧Below w'.heap.size w' w''):=fun w' hb=>copiedR_any (h.below hb) hm
 clear h hm
 obtain ⟨c,n,k,p,s,l,tc,tn,on⟩:=o
 simp only at hk HR
 have t1:(k==1)=false:=beq_eq_false_iff_ne.2 hk
 have t2:decide (k=1)=false:=decide_eq_false hk
 simp only [opVal]
 have hw2:=(Below.refl w.heap.size w).alloc (Nat.le_refl _) (Obj.cells #[.int .i64 c,.int .i64 n,.int .i64 k,.int .i64 p,.string s,.slice a m cap,.int .i64 tc,.int .i64 tn,.bool on] 44)
 go_enter Tryz.func72,Tryz.ntmps72
 go_wp2_with fail
 refine (HR.out _ hw2).mono ?_
 rintro e w1 ⟨v,rfl,hown,hb1⟩
 have hB1:=hw2.trans (hb1.mono hw2.size)
 have HO:Hid (OwnF rngV 2 76 w1 (w.heap.size+1) v l):=hown.mono (by simp)
 clear hown hb1 hw2
 go_wp2_with fail
 go_ret
 exact ⟨_,rfl,HO.out,hB1⟩
theorem covered_any {o:OpV} {w:World} {a:Option Addr} {m cap:Nat} (h:Rng w a m cap o.l) (hm:m≤1000000000) (hs:o.s.size≤9223372036854775807) (hw:Bar w) (hR:Right o) :
  Calls Tryz.prog 72 #[opVal o (.slice a m cap)] w fun e w'=>∃ v,e=.returned v∧OwnF rngV 2 76 w' (w.heap.size+1) v (coveredP o)∧Below w.heap.size w w':=by
 by_cases hk:o.k=1
 ·obtain ⟨h0,h1,h2⟩:=hR.ins hk
  have h3:=insP_code _ _ h2
  have e:coveredP o=[(o.p,o.p+(check o.s).1)]:=by unfold coveredP widthP;rw [if_pos hk,if_pos hk]
  rw [e]
  obtain ⟨c,n,k,p,s,l,tc,tn,on⟩:=o
  simp only at hk
  subst hk
  exact covered_1 hs hw h0 h1 (by have:=h3.2.2.2.2.1;simp only at this ⊢;omega)
 ·have e:coveredP o=o.l:=by unfold coveredP;rw [if_neg hk]
  rw [e]
  exact covered_other h hm hk
def inverseP (o:OpV):OpV:=if o.k=1∨o.k=3 then ⟨0,0,2,0,⟨#[]⟩,coveredP o,0,0,false⟩ else if o.k=2 then ⟨0,0,3,0,⟨#[]⟩,coveredP o,0,0,false⟩ else ⟨0,0,4,0,⟨#[]⟩,[],o.tc,o.tn,!o.on⟩
set_option maxHeartbeats 2000000 in
theorem inverse_1 {c n p:Int} {s:ByteArray} {l:List (Int×Int)} {tc tn:Int} {on:Bool} {w:World} {a:Option Addr} {m cap:Nat} (h:Rng w a m cap l) (hm:m≤1000000000) (hs:s.size≤9223372036854775807) (hw:Bar w) (hok:ownP ⟨c,n,1,p,s,l,tc,tn,on⟩=0) :
  Calls Tryz.prog 41 #[opVal ⟨c,n,1,p,s,l,tc,tn,on⟩ (.slice a m cap)] w fun e w'=>∃ a' m' cap',e=.returned (.tuple #[opVal ⟨0,0,2,0,⟨#[]⟩,coveredP ⟨c,n,1,p,s,l,tc,tn,on⟩,0,0,false⟩ (.slice a' m' cap'),.int .i64 0])∧OwnF rngV 2 76 w' (w.heap.size+2) (.slice a' m' cap') (coveredP ⟨c,n,1,p,s,l,tc,tn,on⟩)∧Below w.heap.size w w':=by
 have HO:Hid (∀ w':World,Below w.heap.size w w'→Calls Tryz.prog 52 #[opVal ⟨c,n,1,p,s,l,tc,tn,on⟩ (.slice a m cap)] w' fun e w''=>e=.returned (.int .i64 (ownP ⟨c,n,1,p,s,l,tc,tn,on⟩))∧Below w'.heap.size w' w''):=fun w' hb=>ownError_any (o:=⟨c,n,1,p,s,l,tc,tn,on⟩) (h.below hb) hs (hw.below hb)
 have hR:=right_of hok
 have HV:Hid (∀ w':World,Below w.heap.size w w'→Calls Tryz.prog 72 #[opVal ⟨c,n,1,p,s,l,tc,tn,on⟩ (.slice a m cap)] w' fun e w''=>∃ v,e=.returned v∧OwnF rngV 2 76 w'' (w'.heap.size+1) v (coveredP ⟨c,n,1,p,s,l,tc,tn,on⟩)∧Below w'.heap.size w' w''):=fun w' hb=>covered_any (o:=⟨c,n,1,p,s,l,tc,tn,on⟩) (h.below hb) hm hs (hw.below hb) hR
 rw [hok] at HO
 generalize coveredP ⟨c,n,1,p,s,l,tc,tn,on⟩=CV at *
 clear hR
 clear h hs hw hok
 simp only [opVal] at *
 have hX:Below w.heap.size w ((w.alloc (Obj.cells #[.int .i64 c,.int .i64 n,.int .i64 1,.int .i64 p,.string s,.slice a m cap,.int .i64 tc,.int .i64 tn,.bool on] 44)).alloc (Obj.cells #[.int .i64 0,.int .i64 0,.int .i64 0,.int .i64 0,.string ⟨#[]⟩,.slice none 0 0,.int .i64 0,.int .i64 0,.bool false] 44)):=((Below.refl w.heap.size w).alloc (Nat.le_refl _) _).alloc (by simp) _
 have y0:((w.alloc (Obj.cells #[.int .i64 c,.int .i64 n,.int .i64 1,.int .i64 p,.string s,.slice a m cap,.int .i64 tc,.int .i64 tn,.bool on] 44)).alloc (Obj.cells #[.int .i64 0,.int .i64 0,.int .i64 0,.int .i64 0,.string ⟨#[]⟩,.slice none 0 0,.int .i64 0,.int .i64 0,.bool false] 44)).heap[w.heap.size]?=some (Obj.cells #[.int .i64 c,.int .i64 n,.int .i64 1,.int .i64 p,.string s,.slice a m cap,.int .i64 tc,.int .i64 tn,.bool on] 44):=(Below.heap_alloc _ _ _ (by simp)).trans (alloc_last _ _ _ rfl)
 have x0:((w.alloc (Obj.cells #[.int .i64 c,.int .i64 n,.int .i64 1,.int .i64 p,.string s,.slice a m cap,.int .i64 tc,.int .i64 tn,.bool on] 44)).alloc (Obj.cells #[.int .i64 0,.int .i64 0,.int .i64 0,.int .i64 0,.string ⟨#[]⟩,.slice none 0 0,.int .i64 0,.int .i64 0,.bool false] 44)).heap[w.heap.size+1]?=some (Obj.cells #[.int .i64 0,.int .i64 0,.int .i64 0,.int .i64 0,.string ⟨#[]⟩,.slice none 0 0,.int .i64 0,.int .i64 0,.bool false] 44):=alloc_last _ _ _ (by simp)
 have hXs:((w.alloc (Obj.cells #[.int .i64 c,.int .i64 n,.int .i64 1,.int .i64 p,.string s,.slice a m cap,.int .i64 tc,.int .i64 tn,.bool on] 44)).alloc (Obj.cells #[.int .i64 0,.int .i64 0,.int .i64 0,.int .i64 0,.string ⟨#[]⟩,.slice none 0 0,.int .i64 0,.int .i64 0,.bool false] 44)).heap.size=w.heap.size+2:=by simp
 go_enter Tryz.func41,Tryz.ntmps41
 go_wp2_with fail
 refine (HO.out _ hX).mono ?_
 rintro e w1 ⟨rfl,hb1⟩
 have hB1:=hX.trans (hb1.mono hX.size)
 have x1:=(hb1.block _ (Array.getElem?_eq_some_iff.1 x0).1).trans x0
 have y1:=(hb1.block _ (Array.getElem?_eq_some_iff.1 y0).1).trans y0
 have hs1:w.heap.size+2≤w1.heap.size:=by have:=hb1.size;rw [hXs] at this;exact this
 clear hX x0 y0 hb1 hXs
 obtain ⟨f0,f1,f2,f3,f4,f5,f6,f7,f8⟩:=cl9 y1
 go_wp2_with fail
 refine (HV.out _ hB1).mono ?_
 rintro e w2 ⟨v,rfl,hown,hb2⟩
 have hB2:=hB1.trans (hb2.mono hB1.size)
 have x2:=(hb2.block _ (Array.getElem?_eq_some_iff.1 x1).1).trans x1
 obtain ⟨va,vc,rfl⟩:=hown.shape
 have HOw:Hid (OwnF rngV 2 76 w2 (w.heap.size+2) (.slice va CV.length vc) CV):=hown.mono (by omega)
 clear hb2 hown x1 y1 hB1 hs1 f0 f1 f2 f3 f4 f5 f6 f7 f8
 obtain ⟨⟨d0,d1,d2,d3,d4,d5,d6,d7,d8⟩,dz0,dz1,dz2,dz3,dz4,dz5,dz6,dz7,dz8⟩:=cf9 x2
 have hx9:=set9g (v0:=.int .i64 0) (v1:=.int .i64 0) (v2:=.int .i64 2) (v3:=.int .i64 0) (v4:=.string ⟨#[]⟩) (v5:=.slice va CV.length vc) (v6:=.int .i64 0) (v7:=.int .i64 0) (v8:=.bool false) x2
 have hq8:=q9 hB2 (b:=w.heap.size+1) (by omega) (.int .i64 0) (.int .i64 0) (.int .i64 2) (.int .i64 0) (.string ⟨#[]⟩) (.slice va CV.length vc) (.int .i64 0) (.int .i64 0) (.bool false)
 obtain ⟨w9,hw9⟩:=exW hx9
 have HO9:Hid (OwnF rngV 2 76 w9 (w.heap.size+2) (.slice va CV.length vc) CV):=by
  show OwnF _ _ _ _ _ _ _
  rw [← hw9]
  refine own_set ?_ _ _ _ (by omega)
  refine own_set ?_ _ _ _ (by omega)
  refine own_set ?_ _ _ _ (by omega)
  refine own_set ?_ _ _ _ (by omega)
  refine own_set ?_ _ _ _ (by omega)
  refine own_set ?_ _ _ _ (by omega)
  refine own_set ?_ _ _ _ (by omega)
  refine own_set ?_ _ _ _ (by omega)
  refine own_set ?_ _ _ _ (by omega)
  exact HOw.out
 rw [hw9] at hx9 hq8
 obtain ⟨r0,r1,r2,r3,r4,r5,r6,r7,r8⟩:=cl9 hx9
 go_wp2_with fail
 try rw [hw9]
 refine bodyPost_ret (v:=.tuple #[.agg #[.int .i64 0,.int .i64 0,.int .i64 2,.int .i64 0,.string ⟨#[]⟩,.slice va CV.length vc,.int .i64 0,.int .i64 0,.bool false],.int .i64 0]) (by simp [results,Tryz.results41,go_sem,r0,r1,r2,r3,r4,r5,r6,r7,r8]) rfl ⟨va,CV.length,vc,rfl,HO9.out,hq8⟩
set_option maxHeartbeats 2000000 in
theorem inverse_3 {c n p:Int} {s:ByteArray} {l:List (Int×Int)} {tc tn:Int} {on:Bool} {w:World} {a:Option Addr} {m cap:Nat} (h:Rng w a m cap l) (hm:m≤1000000000) (hs:s.size≤9223372036854775807) (hw:Bar w) (hok:ownP ⟨c,n,3,p,s,l,tc,tn,on⟩=0) :
  Calls Tryz.prog 41 #[opVal ⟨c,n,3,p,s,l,tc,tn,on⟩ (.slice a m cap)] w fun e w'=>∃ a' m' cap',e=.returned (.tuple #[opVal ⟨0,0,2,0,⟨#[]⟩,coveredP ⟨c,n,3,p,s,l,tc,tn,on⟩,0,0,false⟩ (.slice a' m' cap'),.int .i64 0])∧OwnF rngV 2 76 w' (w.heap.size+2) (.slice a' m' cap') (coveredP ⟨c,n,3,p,s,l,tc,tn,on⟩)∧Below w.heap.size w w':=by
 have HO:Hid (∀ w':World,Below w.heap.size w w'→Calls Tryz.prog 52 #[opVal ⟨c,n,3,p,s,l,tc,tn,on⟩ (.slice a m cap)] w' fun e w''=>e=.returned (.int .i64 (ownP ⟨c,n,3,p,s,l,tc,tn,on⟩))∧Below w'.heap.size w' w''):=fun w' hb=>ownError_any (o:=⟨c,n,3,p,s,l,tc,tn,on⟩) (h.below hb) hs (hw.below hb)
 have hR:=right_of hok
 have HV:Hid (∀ w':World,Below w.heap.size w w'→Calls Tryz.prog 72 #[opVal ⟨c,n,3,p,s,l,tc,tn,on⟩ (.slice a m cap)] w' fun e w''=>∃ v,e=.returned v∧OwnF rngV 2 76 w'' (w'.heap.size+1) v (coveredP ⟨c,n,3,p,s,l,tc,tn,on⟩)∧Below w'.heap.size w' w''):=fun w' hb=>covered_any (o:=⟨c,n,3,p,s,l,tc,tn,on⟩) (h.below hb) hm hs (hw.below hb) hR
 rw [hok] at HO
 generalize coveredP ⟨c,n,3,p,s,l,tc,tn,on⟩=CV at *
 clear hR
 clear h hs hw hok
 simp only [opVal] at *
 have hX:Below w.heap.size w ((w.alloc (Obj.cells #[.int .i64 c,.int .i64 n,.int .i64 3,.int .i64 p,.string s,.slice a m cap,.int .i64 tc,.int .i64 tn,.bool on] 44)).alloc (Obj.cells #[.int .i64 0,.int .i64 0,.int .i64 0,.int .i64 0,.string ⟨#[]⟩,.slice none 0 0,.int .i64 0,.int .i64 0,.bool false] 44)):=((Below.refl w.heap.size w).alloc (Nat.le_refl _) _).alloc (by simp) _
 have y0:((w.alloc (Obj.cells #[.int .i64 c,.int .i64 n,.int .i64 3,.int .i64 p,.string s,.slice a m cap,.int .i64 tc,.int .i64 tn,.bool on] 44)).alloc (Obj.cells #[.int .i64 0,.int .i64 0,.int .i64 0,.int .i64 0,.string ⟨#[]⟩,.slice none 0 0,.int .i64 0,.int .i64 0,.bool false] 44)).heap[w.heap.size]?=some (Obj.cells #[.int .i64 c,.int .i64 n,.int .i64 3,.int .i64 p,.string s,.slice a m cap,.int .i64 tc,.int .i64 tn,.bool on] 44):=(Below.heap_alloc _ _ _ (by simp)).trans (alloc_last _ _ _ rfl)
 have x0:((w.alloc (Obj.cells #[.int .i64 c,.int .i64 n,.int .i64 3,.int .i64 p,.string s,.slice a m cap,.int .i64 tc,.int .i64 tn,.bool on] 44)).alloc (Obj.cells #[.int .i64 0,.int .i64 0,.int .i64 0,.int .i64 0,.string ⟨#[]⟩,.slice none 0 0,.int .i64 0,.int .i64 0,.bool false] 44)).heap[w.heap.size+1]?=some (Obj.cells #[.int .i64 0,.int .i64 0,.int .i64 0,.int .i64 0,.string ⟨#[]⟩,.slice none 0 0,.int .i64 0,.int .i64 0,.bool false] 44):=alloc_last _ _ _ (by simp)
 have hXs:((w.alloc (Obj.cells #[.int .i64 c,.int .i64 n,.int .i64 3,.int .i64 p,.string s,.slice a m cap,.int .i64 tc,.int .i64 tn,.bool on] 44)).alloc (Obj.cells #[.int .i64 0,.int .i64 0,.int .i64 0,.int .i64 0,.string ⟨#[]⟩,.slice none 0 0,.int .i64 0,.int .i64 0,.bool false] 44)).heap.size=w.heap.size+2:=by simp
 go_enter Tryz.func41,Tryz.ntmps41
 go_wp2_with fail
 refine (HO.out _ hX).mono ?_
 rintro e w1 ⟨rfl,hb1⟩
 have hB1:=hX.trans (hb1.mono hX.size)
 have x1:=(hb1.block _ (Array.getElem?_eq_some_iff.1 x0).1).trans x0
 have y1:=(hb1.block _ (Array.getElem?_eq_some_iff.1 y0).1).trans y0
 have hs1:w.heap.size+2≤w1.heap.size:=by have:=hb1.size;rw [hXs] at this;exact this
 clear hX x0 y0 hb1 hXs
 obtain ⟨f0,f1,f2,f3,f4,f5,f6,f7,f8⟩:=cl9 y1
 go_wp2_with fail
 refine (HV.out _ hB1).mono ?_
 rintro e w2 ⟨v,rfl,hown,hb2⟩
 have hB2:=hB1.trans (hb2.mono hB1.size)
 have x2:=(hb2.block _ (Array.getElem?_eq_some_iff.1 x1).1).trans x1
 obtain ⟨va,vc,rfl⟩:=hown.shape
 have HOw:Hid (OwnF rngV 2 76 w2 (w.heap.size+2) (.slice va CV.length vc) CV):=hown.mono (by omega)
 clear hb2 hown x1 y1 hB1 hs1 f0 f1 f2 f3 f4 f5 f6 f7 f8
 obtain ⟨⟨d0,d1,d2,d3,d4,d5,d6,d7,d8⟩,dz0,dz1,dz2,dz3,dz4,dz5,dz6,dz7,dz8⟩:=cf9 x2
 have hx9:=set9g (v0:=.int .i64 0) (v1:=.int .i64 0) (v2:=.int .i64 2) (v3:=.int .i64 0) (v4:=.string ⟨#[]⟩) (v5:=.slice va CV.length vc) (v6:=.int .i64 0) (v7:=.int .i64 0) (v8:=.bool false) x2
 have hq8:=q9 hB2 (b:=w.heap.size+1) (by omega) (.int .i64 0) (.int .i64 0) (.int .i64 2) (.int .i64 0) (.string ⟨#[]⟩) (.slice va CV.length vc) (.int .i64 0) (.int .i64 0) (.bool false)
 obtain ⟨w9,hw9⟩:=exW hx9
 have HO9:Hid (OwnF rngV 2 76 w9 (w.heap.size+2) (.slice va CV.length vc) CV):=by
  show OwnF _ _ _ _ _ _ _
  rw [← hw9]
  refine own_set ?_ _ _ _ (by omega)
  refine own_set ?_ _ _ _ (by omega)
  refine own_set ?_ _ _ _ (by omega)
  refine own_set ?_ _ _ _ (by omega)
  refine own_set ?_ _ _ _ (by omega)
  refine own_set ?_ _ _ _ (by omega)
  refine own_set ?_ _ _ _ (by omega)
  refine own_set ?_ _ _ _ (by omega)
  refine own_set ?_ _ _ _ (by omega)
  exact HOw.out
 rw [hw9] at hx9 hq8
 obtain ⟨r0,r1,r2,r3,r4,r5,r6,r7,r8⟩:=cl9 hx9
 go_wp2_with fail
 try rw [hw9]
 refine bodyPost_ret (v:=.tuple #[.agg #[.int .i64 0,.int .i64 0,.int .i64 2,.int .i64 0,.string ⟨#[]⟩,.slice va CV.length vc,.int .i64 0,.int .i64 0,.bool false],.int .i64 0]) (by simp [results,Tryz.results41,go_sem,r0,r1,r2,r3,r4,r5,r6,r7,r8]) rfl ⟨va,CV.length,vc,rfl,HO9.out,hq8⟩
set_option maxHeartbeats 2000000 in
theorem inverse_2 {c n p:Int} {s:ByteArray} {l:List (Int×Int)} {tc tn:Int} {on:Bool} {w:World} {a:Option Addr} {m cap:Nat} (h:Rng w a m cap l) (hm:m≤1000000000) (hs:s.size≤9223372036854775807) (hw:Bar w) (hok:ownP ⟨c,n,2,p,s,l,tc,tn,on⟩=0) :
  Calls Tryz.prog 41 #[opVal ⟨c,n,2,p,s,l,tc,tn,on⟩ (.slice a m cap)] w fun e w'=>∃ a' m' cap',e=.returned (.tuple #[opVal ⟨0,0,3,0,⟨#[]⟩,coveredP ⟨c,n,2,p,s,l,tc,tn,on⟩,0,0,false⟩ (.slice a' m' cap'),.int .i64 0])∧OwnF rngV 2 76 w' (w.heap.size+2) (.slice a' m' cap') (coveredP ⟨c,n,2,p,s,l,tc,tn,on⟩)∧Below w.heap.size w w':=by
 have HO:Hid (∀ w':World,Below w.heap.size w w'→Calls Tryz.prog 52 #[opVal ⟨c,n,2,p,s,l,tc,tn,on⟩ (.slice a m cap)] w' fun e w''=>e=.returned (.int .i64 (ownP ⟨c,n,2,p,s,l,tc,tn,on⟩))∧Below w'.heap.size w' w''):=fun w' hb=>ownError_any (o:=⟨c,n,2,p,s,l,tc,tn,on⟩) (h.below hb) hs (hw.below hb)
 have hR:=right_of hok
 have HV:Hid (∀ w':World,Below w.heap.size w w'→Calls Tryz.prog 72 #[opVal ⟨c,n,2,p,s,l,tc,tn,on⟩ (.slice a m cap)] w' fun e w''=>∃ v,e=.returned v∧OwnF rngV 2 76 w'' (w'.heap.size+1) v (coveredP ⟨c,n,2,p,s,l,tc,tn,on⟩)∧Below w'.heap.size w' w''):=fun w' hb=>covered_any (o:=⟨c,n,2,p,s,l,tc,tn,on⟩) (h.below hb) hm hs (hw.below hb) hR
 rw [hok] at HO
 generalize coveredP ⟨c,n,2,p,s,l,tc,tn,on⟩=CV at *
 clear hR
 clear h hs hw hok
 simp only [opVal] at *
 have hX:Below w.heap.size w ((w.alloc (Obj.cells #[.int .i64 c,.int .i64 n,.int .i64 2,.int .i64 p,.string s,.slice a m cap,.int .i64 tc,.int .i64 tn,.bool on] 44)).alloc (Obj.cells #[.int .i64 0,.int .i64 0,.int .i64 0,.int .i64 0,.string ⟨#[]⟩,.slice none 0 0,.int .i64 0,.int .i64 0,.bool false] 44)):=((Below.refl w.heap.size w).alloc (Nat.le_refl _) _).alloc (by simp) _
 have y0:((w.alloc (Obj.cells #[.int .i64 c,.int .i64 n,.int .i64 2,.int .i64 p,.string s,.slice a m cap,.int .i64 tc,.int .i64 tn,.bool on] 44)).alloc (Obj.cells #[.int .i64 0,.int .i64 0,.int .i64 0,.int .i64 0,.string ⟨#[]⟩,.slice none 0 0,.int .i64 0,.int .i64 0,.bool false] 44)).heap[w.heap.size]?=some (Obj.cells #[.int .i64 c,.int .i64 n,.int .i64 2,.int .i64 p,.string s,.slice a m cap,.int .i64 tc,.int .i64 tn,.bool on] 44):=(Below.heap_alloc _ _ _ (by simp)).trans (alloc_last _ _ _ rfl)
 have x0:((w.alloc (Obj.cells #[.int .i64 c,.int .i64 n,.int .i64 2,.int .i64 p,.string s,.slice a m cap,.int .i64 tc,.int .i64 tn,.bool on] 44)).alloc (Obj.cells #[.int .i64 0,.int .i64 0,.int .i64 0,.int .i64 0,.string ⟨#[]⟩,.slice none 0 0,.int .i64 0,.int .i64 0,.bool false] 44)).heap[w.heap.size+1]?=some (Obj.cells #[.int .i64 0,.int .i64 0,.int .i64 0,.int .i64 0,.string ⟨#[]⟩,.slice none 0 0,.int .i64 0,.int .i64 0,.bool false] 44):=alloc_last _ _ _ (by simp)
 have hXs:((w.alloc (Obj.cells #[.int .i64 c,.int .i64 n,.int .i64 2,.int .i64 p,.string s,.slice a m cap,.int .i64 tc,.int .i64 tn,.bool on] 44)).alloc (Obj.cells #[.int .i64 0,.int .i64 0,.int .i64 0,.int .i64 0,.string ⟨#[]⟩,.slice none 0 0,.int .i64 0,.int .i64 0,.bool false] 44)).heap.size=w.heap.size+2:=by simp
 go_enter Tryz.func41,Tryz.ntmps41
 go_wp2_with fail
 refine (HO.out _ hX).mono ?_
 rintro e w1 ⟨rfl,hb1⟩
 have hB1:=hX.trans (hb1.mono hX.size)
 have x1:=(hb1.block _ (Array.getElem?_eq_some_iff.1 x0).1).trans x0
 have y1:=(hb1.block _ (Array.getElem?_eq_some_iff.1 y0).1).trans y0
 have hs1:w.heap.size+2≤w1.heap.size:=by have:=hb1.size;rw [hXs] at this;exact this
 clear hX x0 y0 hb1 hXs
 obtain ⟨f0,f1,f2,f3,f4,f5,f6,f7,f8⟩:=cl9 y1
 go_wp2_with fail
 refine (HV.out _ hB1).mono ?_
 rintro e w2 ⟨v,rfl,hown,hb2⟩
 have hB2:=hB1.trans (hb2.mono hB1.size)
 have x2:=(hb2.block _ (Array.getElem?_eq_some_iff.1 x1).1).trans x1
 obtain ⟨va,vc,rfl⟩:=hown.shape
 have HOw:Hid (OwnF rngV 2 76 w2 (w.heap.size+2) (.slice va CV.length vc) CV):=hown.mono (by omega)
 clear hb2 hown x1 y1 hB1 hs1 f0 f1 f2 f3 f4 f5 f6 f7 f8
 obtain ⟨⟨d0,d1,d2,d3,d4,d5,d6,d7,d8⟩,dz0,dz1,dz2,dz3,dz4,dz5,dz6,dz7,dz8⟩:=cf9 x2
 have hx9:=set9g (v0:=.int .i64 0) (v1:=.int .i64 0) (v2:=.int .i64 3) (v3:=.int .i64 0) (v4:=.string ⟨#[]⟩) (v5:=.slice va CV.length vc) (v6:=.int .i64 0) (v7:=.int .i64 0) (v8:=.bool false) x2
 have hq8:=q9 hB2 (b:=w.heap.size+1) (by omega) (.int .i64 0) (.int .i64 0) (.int .i64 3) (.int .i64 0) (.string ⟨#[]⟩) (.slice va CV.length vc) (.int .i64 0) (.int .i64 0) (.bool false)
 obtain ⟨w9,hw9⟩:=exW hx9
 have HO9:Hid (OwnF rngV 2 76 w9 (w.heap.size+2) (.slice va CV.length vc) CV):=by
  show OwnF _ _ _ _ _ _ _
  rw [← hw9]
  refine own_set ?_ _ _ _ (by omega)
  refine own_set ?_ _ _ _ (by omega)
  refine own_set ?_ _ _ _ (by omega)
  refine own_set ?_ _ _ _ (by omega)
  refine own_set ?_ _ _ _ (by omega)
  refine own_set ?_ _ _ _ (by omega)
  refine own_set ?_ _ _ _ (by omega)
  refine own_set ?_ _ _ _ (by omega)
  refine own_set ?_ _ _ _ (by omega)
  exact HOw.out
 rw [hw9] at hx9 hq8
 obtain ⟨r0,r1,r2,r3,r4,r5,r6,r7,r8⟩:=cl9 hx9
 go_wp2_with fail
 try rw [hw9]
 refine bodyPost_ret (v:=.tuple #[.agg #[.int .i64 0,.int .i64 0,.int .i64 3,.int .i64 0,.string ⟨#[]⟩,.slice va CV.length vc,.int .i64 0,.int .i64 0,.bool false],.int .i64 0]) (by simp [results,Tryz.results41,go_sem,r0,r1,r2,r3,r4,r5,r6,r7,r8]) rfl ⟨va,CV.length,vc,rfl,HO9.out,hq8⟩
end Go.Proofs.YtijpfbcippijoaaGreatDoor
namespace Go.Proofs.YtijpfbcippijoaaGreatDoor
open Go.RowKit Go.Lib Sp
set_option maxRecDepth 100000
set_option maxHeartbeats 400000 in
theorem gIsID_any (c n:Int) (w:World):Calls Tryz.prog 61 #[.agg #[.int .i64 c,.int .i64 n]] w fun e w'=>e=.returned (.bool (isIdP c n))∧Below w.heap.size w w':=by
 obtain ⟨r,hr⟩:∃ r,isIdP c n=r:=⟨_,rfl⟩
 rw [hr]
 unfold isIdP at hr
 by_cases h1:1≤c
 ·by_cases h2:c≤8
  ·by_cases h3:1≤n
   ·by_cases h4:n≤1024
    ·rw [decide_eq_true ⟨h1,h2,h3,h4⟩] at hr;subst hr
     go_enter Tryz.func61,Tryz.ntmps61
     go_wp2_with fail
     go_ret
     exact ⟨rfl,(Below.refl _ _).alloc (Nat.le_refl _) _⟩
    ·rw [decide_eq_false (by omega)] at hr;subst hr
     have d4:decide (n≤1024)=false:=decide_eq_false h4
     clear h4
     go_enter Tryz.func61,Tryz.ntmps61
     go_wp2_with fail
     go_ret
     exact ⟨rfl,(Below.refl _ _).alloc (Nat.le_refl _) _⟩
   ·rw [decide_eq_false (by omega)] at hr;subst hr
    have d4:decide (1≤n)=false:=decide_eq_false h3
    clear h3
    go_enter Tryz.func61,Tryz.ntmps61
    go_wp2_with fail
    go_ret
    exact ⟨rfl,(Below.refl _ _).alloc (Nat.le_refl _) _⟩
  ·rw [decide_eq_false (by omega)] at hr;subst hr
   have d4:decide (c≤8)=false:=decide_eq_false h2
   clear h2
   go_enter Tryz.func61,Tryz.ntmps61
   go_wp2_with fail
   go_ret
   exact ⟨rfl,(Below.refl _ _).alloc (Nat.le_refl _) _⟩
 ·rw [decide_eq_false (by omega)] at hr;subst hr
  have d4:decide (1≤c)=false:=decide_eq_false h1
  clear h1
  go_enter Tryz.func61,Tryz.ntmps61
  go_wp2_with fail
  go_ret
  exact ⟨rfl,(Below.refl _ _).alloc (Nat.le_refl _) _⟩
set_option maxHeartbeats 400000 in
theorem gNone_any (c n:Int) (w:World):Calls Tryz.prog 62 #[.agg #[.int .i64 c,.int .i64 n]] w fun e w'=>e=.returned (.bool (decide (c=0∧n=0)))∧Below w.heap.size w w':=by
 obtain ⟨r,hr⟩:∃ r,decide (c=0∧n=0)=r:=⟨_,rfl⟩
 rw [hr]
 by_cases h1:c=0
 ·subst h1
  by_cases h2:n=0
  ·subst h2
   rw [decide_eq_true ⟨rfl,rfl⟩] at hr;subst hr
   go_enter Tryz.func62,Tryz.ntmps62
   go_wp2_with fail
   go_ret
   exact ⟨rfl,(Below.refl _ _).alloc (Nat.le_refl _) _⟩
  ·rw [decide_eq_false (by omega)] at hr;subst hr
   have t1:(n==0)=false:=beq_eq_false_iff_ne.2 h2
   clear h2
   go_enter Tryz.func62,Tryz.ntmps62
   go_wp2_with fail
   go_ret
   exact ⟨rfl,(Below.refl _ _).alloc (Nat.le_refl _) _⟩
 ·rw [decide_eq_false (by omega)] at hr;subst hr
  have t1:(c==0)=false:=beq_eq_false_iff_ne.2 h1
  clear h1
  go_enter Tryz.func62,Tryz.ntmps62
  go_wp2_with fail
  go_ret
  exact ⟨rfl,(Below.refl _ _).alloc (Nat.le_refl _) _⟩
end Go.Proofs.YtijpfbcippijoaaGreatDoor
