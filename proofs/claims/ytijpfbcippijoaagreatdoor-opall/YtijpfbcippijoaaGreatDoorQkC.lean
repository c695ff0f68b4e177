import Derived.Test.YtijpfbcippijoaaGreatDoorAl
import Derived.Test.YtijpfbcippijoaaGreatDoorGr131
import Derived.Deep.Cut
import Derived.BigGuard
import Derived.Test.YtijpfbcippijoaaGreatDoorGr142
set_option maxHeartbeats 8000000
set_option maxRecDepth 100000
namespace Go.Proofs.YtijpfbcippijoaaGreatDoor
open Go.RowKit Go.Lib Sp
theorem gEqual_any {o x:OpV} {w:World} {a b:Option Addr} {n m cap capb:Nat} (h:Rng w a n cap o.l) (hx:Rng w b m capb x.l) :
  Calls Tryz.prog 16 #[opVal o (.slice a n cap),opVal x (.slice b m capb)] w fun e w'=>e=.returned (.bool (eqP o x))∧Below w.heap.size w w':=by
 obtain ⟨c1,n1,k1,p1,s1,l1,tc1,tn1,on1⟩:=o;obtain ⟨c2,n2,k2,p2,s2,l2,tc2,tn2,on2⟩:=x;simp only [opVal] at *;have HS:Hid (∀ w':World,Below w.heap.size w w'→Calls Tryz.prog 38 #[.slice a n cap,.slice b m capb] w' fun e w''=>e=.returned (.bool (decide (l1=l2)))∧Below w'.heap.size w' w''):=fun w' hb=>gSame_any (h.below hb) (hx.below hb)
 clear h hx;obtain ⟨r,hr⟩:∃ r,eqP ⟨c1,n1,k1,p1,s1,l1,tc1,tn1,on1⟩ ⟨c2,n2,k2,p2,s2,l2,tc2,tn2,on2⟩=r:=⟨_,rfl⟩;rw [hr];simp only [eqP] at hr;obtain ⟨W0,hW0⟩:∃ W0,(w.alloc (Obj.cells #[.int .i64 c1,.int .i64 n1,.int .i64 k1,.int .i64 p1,.string s1,.slice a n cap,.int .i64 tc1,.int .i64 tn1,.bool on1] 44)).alloc (Obj.cells #[.int .i64 c2,.int .i64 n2,.int .i64 k2,.int .i64 p2,.string s2,.slice b m capb,.int .i64 tc2,.int .i64 tn2,.bool on2] 44)=W0:=⟨_,rfl⟩;have hX:W0.heap[w.heap.size]?=some (Obj.cells #[.int .i64 c1,.int .i64 n1,.int .i64 k1,.int .i64 p1,.string s1,.slice a n cap,.int .i64 tc1,.int .i64 tn1,.bool on1] 44):=by rw [← hW0];exact (Below.heap_alloc _ _ _ (by simp)).trans (alloc_last _ _ _ rfl)
 have hZ:W0.heap[w.heap.size+1]?=some (Obj.cells #[.int .i64 c2,.int .i64 n2,.int .i64 k2,.int .i64 p2,.string s2,.slice b m capb,.int .i64 tc2,.int .i64 tn2,.bool on2] 44):=by rw [← hW0];exact alloc_last _ _ _ (by simp)
 have hB0:Below w.heap.size w W0:=by rw [← hW0];exact ((bE w.heap.size w).alloc (lR _) _).alloc (by simp) _
 have hlt:w.heap.size+1<W0.heap.size:=(gA hZ);have HX:Hid (W0.heap[w.heap.size]?=some (Obj.cells #[.int .i64 c1,.int .i64 n1,.int .i64 k1,.int .i64 p1,.string s1,.slice a n cap,.int .i64 tc1,.int .i64 tn1,.bool on1] 44)∧W0.heap[w.heap.size+1]?=some (Obj.cells #[.int .i64 c2,.int .i64 n2,.int .i64 k2,.int .i64 p2,.string s2,.slice b m capb,.int .i64 tc2,.int .i64 tn2,.bool on2] 44)):=⟨hX,hZ⟩;have x5:=(bx9 hX).2.2.2.2.2.1;have z5:=(bx9 hZ).2.2.2.2.2.1;clear hX hZ;go_enter Tryz.func16,Tryz.ntmps16;go_wp2_with fail
 (try simp only [hW0])
 (try go_wp2_with fail)
 refine (HS.out _ hB0).mono ?_;rintro e w1 ⟨rfl,hb1⟩;have hX1:=(hb1.block _ (by omega)).trans HX.out.1;have hZ1:=(hb1.block _ (by omega)).trans HX.out.2;have HB:Hid (Below w.heap.size w w1):=hB0.trans (hb1.mono hB0.size);obtain ⟨d0,d1,d2,d3,d4,d5,d6,d7,d8⟩:=bx9 hX1;obtain ⟨f0,f1,f2,f3,f4,f5,f6,f7,f8⟩:=bx9 hZ1;clear hX1 hZ1 hB0 hb1 HS hlt HX x5 z5 hW0 d5 f5;go_upto_region 2 with fail
 simp only [List.append_eq,List.cons_append,List.nil_append];by_cases e0:l1=l2
 case neg =>
  rw [decide_eq_false (by simp [e0])] at hr;subst hr;rw [decide_eq_false e0];clear e0 d0 f0 d1 f1 d2 f2 d3 f3 d4 f4 d6 f6 d7 f7 d8 f8;go_wp2_with fail;go_ret;exact ⟨rfl,HB.out⟩
 subst e0;rw [decide_eq_true (rfl:l1=l1)];by_cases e0:c1=c2
 case neg =>
  rw [decide_eq_false (by simp [e0])] at hr;subst hr;have t1:(c1==c2)=false:=nB e0;clear e0 d1 f1 d2 f2 d3 f3 d4 f4 d6 f6 d7 f7 d8 f8;go_wp2_with fail;go_ret;exact ⟨rfl,HB.out⟩
 subst e0;have q0:(c1==c1)=true:=beq_self_eq_true _;by_cases e0:n1=n2
 case neg =>
  rw [decide_eq_false (by simp [e0])] at hr;subst hr;have t1:(n1==n2)=false:=nB e0;clear e0 d2 f2 d3 f3 d4 f4 d6 f6 d7 f7 d8 f8;go_wp2_with fail;go_ret;exact ⟨rfl,HB.out⟩
 subst e0;have q1:(n1==n1)=true:=beq_self_eq_true _;by_cases e0:k1=k2
 case neg =>
  rw [decide_eq_false (by simp [e0])] at hr;subst hr;have t1:(k1==k2)=false:=nB e0;clear e0 d3 f3 d4 f4 d6 f6 d7 f7 d8 f8;go_wp2_with fail;go_ret;exact ⟨rfl,HB.out⟩
 subst e0;have q2:(k1==k1)=true:=beq_self_eq_true _;by_cases e0:p1=p2
 case neg =>
  rw [decide_eq_false (by simp [e0])] at hr;subst hr;have t1:(p1==p2)=false:=nB e0;clear e0 d4 f4 d6 f6 d7 f7 d8 f8;go_wp2_with fail;go_ret;exact ⟨rfl,HB.out⟩
 subst e0;have q3:(p1==p1)=true:=beq_self_eq_true _;by_cases e0:s1=s2
 case neg =>
  rw [decide_eq_false (by simp [e0])] at hr;subst hr;have t1:(s1.toList==s2.toList)=false:=nB (fun e=>e0 (toList_inj e));clear e0 d6 f6 d7 f7 d8 f8;go_wp2_with fail;go_ret;exact ⟨rfl,HB.out⟩
 subst e0;have q4:(s1.toList==s1.toList)=true:=beq_self_eq_true _;by_cases e0:tc1=tc2
 case neg =>
  rw [decide_eq_false (by simp [e0])] at hr;subst hr;have t1:(tc1==tc2)=false:=nB e0;clear e0 d7 f7 d8 f8;go_wp2_with fail;go_ret;exact ⟨rfl,HB.out⟩
 subst e0;have q6:(tc1==tc1)=true:=beq_self_eq_true _;by_cases e0:tn1=tn2
 case neg =>
  rw [decide_eq_false (by simp [e0])] at hr;subst hr;have t1:(tn1==tn2)=false:=nB e0;clear e0 d8 f8;go_wp2_with fail;go_ret;exact ⟨rfl,HB.out⟩
 subst e0;have q7:(tn1==tn1)=true:=beq_self_eq_true _;by_cases e0:on1=on2
 case neg =>
  rw [decide_eq_false (by simp [e0])] at hr;subst hr;have t1:(on1==on2)=false:=nB e0;clear e0 ;go_wp2_with fail;go_ret;exact ⟨rfl,HB.out⟩
 subst e0;have q8:(on1==on1)=true:=beq_self_eq_true _;rw [decide_eq_true (by simp)] at hr;subst hr;go_wp2_with fail;go_ret;exact ⟨rfl,HB.out⟩
end Go.Proofs.YtijpfbcippijoaaGreatDoor
