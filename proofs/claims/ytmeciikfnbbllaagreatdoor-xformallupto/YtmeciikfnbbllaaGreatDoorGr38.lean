import Derived.Test.YtmeciikfnbbllaaGreatDoorAl
import Derived.Test.YtmeciikfnbbllaaGreatDoorXjE
import Derived.Test.YtmeciikfnbbllaaGreatDoorXjH
import Derived.Test.YtmeciikfnbbllaaGreatDoorXjI
set_option maxHeartbeats 16000000
set_option maxRecDepth 100000
namespace Go.Proofs.YtmeciikfnbbllaaGreatDoor
open Go.RowKit Go.Lib
theorem clash_symm (a b:OpV):clashP b a=clashP a b:=by
 unfold clashP;by_cases h1:a.c=b.c
 ·by_cases h2:a.n=b.n
  ·rw [h1,h2]
  ·have e1:(a.n==b.n)=false:=nB h2;have e2:(b.n==a.n)=false:=nB (fun e=>h2 e.symm);rw [e1,e2];simp
 ·have e1:(a.c==b.c)=false:=nB h1;have e2:(b.c==a.c)=false:=nB (fun e=>h1 e.symm);rw [e1,e2];simp
theorem transpose_any {o o2:OpV} {a:Option Addr} {m cap:Nat} {b:Option Addr} {m2 cap2:Nat} {w:World} (hR:Sp.Rng w a m cap o.l) (hR2:Sp.Rng w b m2 cap2 o2.l) (hm:m≤1000000000) (hm2:m2≤1000000000) (hs:o.s.size≤2097152) (hs2:o2.s.size≤2097152) (h1:Right o) (h2:Right o2) :
  Calls Tryz.prog 53 #[opVal o (.slice a m cap),opVal o2 (.slice b m2 cap2)] w fun e w'=>Ans2 w (transP o o2) e w':=by
 obtain ⟨⟨⟨c4,n4,k4,p4,s4,l4,tc4,tn4,on4⟩,z4⟩,hq4⟩:∃ q,exclP o2 o=q:=⟨_,rfl⟩;have HEX:Hid (∀ W,Below w.heap.size w W→Calls Tryz.prog 52 #[opVal o2 (.slice b m2 cap2),opVal o (.slice a m cap)] W fun e w'=>Ans W (⟨c4,n4,k4,p4,s4,l4,tc4,tn4,on4⟩,z4) e w'):=fun W hb=>by
  have:=exclude_any (hR2.below hb) hm2 hs2 hs h2 h1 (b:=a) (m2:=m) (cap2:=cap);rw [hq4] at this;exact this
 by_cases hz:z4=0
 ·subst hz;have hncl:clashP o o2=false:=by
   cases hc:clashP o o2 with
   | false=>rfl
   | true =>
    have e1:exclP o2 o=(op0,50):=by unfold exclP;rw [if_pos (by rw [clash_symm];exact hc)]
    rw [e1] at hq4;cases hq4
  have hncl':¬ clashP o o2=true:=by rw [hncl];decide
  have tr0:orderedP o o2=false→∀ q5:OpV,inclP o o2 true=(q5,0)→transP o o2=((⟨c4,n4,k4,p4,s4,l4,tc4,tn4,on4⟩,q5),0):=fun ho q5 hi=>by
   unfold transP;rw [hq4,hi,if_neg (by simp),if_neg (by rw [ho];decide),if_neg (by simp)]
  have trE:orderedP o o2=false→∀ (q5:OpV) (z5:Int),z5≠0→inclP o o2 true=(q5,z5)→transP o o2=((op0,op0),z5):=fun ho q5 z5 hz5 hi=>by
   unfold transP;rw [hq4,hi,if_neg (by simp),if_neg (by rw [ho];decide),if_pos hz5]
  have trO:orderedP o o2=true→transP o o2=((op0,op0),50):=fun ho=>by
   unfold transP;rw [hq4,if_neg (by simp),if_pos ho]
  by_cases k4:o.k=4
  ·have e1:=target_eq h1 k4 o2.tc o2.tn;have e2:=target_eq h1 k4 o2.c o2.n;have hord:orderedP o o2=(decide (o.tc=o2.c∧o.tn=o2.n)||(decide (o2.k=4)&&(decide (o.tc=o2.tc∧o.tn=o2.tn)&&(o.on != o2.on)))):=by
    unfold orderedP;rw [decide_eq_true k4,Bool.true_and,Bool.decide_and,Bool.decide_and];rfl
   by_cases c5:o2.k=4∧(o.tc=o2.tc∧o.tn=o2.tn)∧o.on≠o2.on
   ·have ho:orderedP o o2=true:=by
     rw [hord,decide_eq_true c5.1,decide_eq_true c5.2.1];simp [c5.2.2]
    rw [trO ho];exact transpose_on HEX _ rfl _ rfl k4 c5.1 (by rw [e1,decide_eq_true c5.2.1]) c5.2.2
   ·have hc5:o.k≠4∨(o.k=4∧o2.k≠4)∨(o.k=4∧o2.k=4∧isB o.tc o.tn o2.tc o2.tn=false)∨(o.k=4∧o2.k=4∧isB o.tc o.tn o2.tc o2.tn=true∧o.on=o2.on):=by
     by_cases q1:o2.k=4
     ·by_cases q2:o.tc=o2.tc∧o.tn=o2.tn
      ·refine .inr (.inr (.inr ⟨k4,q1,by rw [e1,decide_eq_true q2],?_⟩));refine Decidable.byContradiction (fun q3=>c5 ⟨q1,q2,q3⟩)
      ·exact .inr (.inr (.inl ⟨k4,q1,by rw [e1,decide_eq_false q2]⟩))
     ·exact .inr (.inl ⟨k4,q1⟩)
    by_cases ct:o.tc=o2.c∧o.tn=o2.n
    ·have ho:orderedP o o2=true:=by rw [hord,decide_eq_true ct];rfl
     rw [trO ho];exact transpose_to HEX _ rfl _ rfl hc5 k4 (by rw [e2,decide_eq_true ct])
    ·have ho:orderedP o o2=false:=by
      rw [hord,decide_eq_false ct,Bool.false_or];by_cases q1:o2.k=4
      ·by_cases q2:o.tc=o2.tc∧o.tn=o2.tn
       ·have q3:o.on=o2.on:=Decidable.byContradiction (fun q3=>c5 ⟨q1,q2,q3⟩);rw [q3];simp
       ·rw [decide_eq_false q2];simp
      ·rw [decide_eq_false q1];rfl
     rw [tr0 ho o (by unfold inclP;rw [if_neg hncl',if_pos (.inr k4)])];exact transpose_stat HEX hR hm _ rfl _ rfl hc5 k4 (by rw [e2,decide_eq_false ct])
  ·have ho:orderedP o o2=false:=by unfold orderedP;rw [decide_eq_false k4];rfl
   by_cases q2:o2.k=1
   ·have hk:¬ (o2.k≠1∨o.k=4):=by omega
    obtain ⟨r1,r2,r3⟩:=h2.ins q2;have hpos2:=h2.wpos q2;have hw2:=h2.wd;by_cases q1:o.k=1
    ·obtain ⟨s1,s2,s3⟩:=h1.ins q1;have hpos1:=h1.wpos q1;have hw1:=h1.wd;have sne:¬ (o.k≠1):=fun h=>h q1
     have hno:¬ (o.p<o2.p∧o2.p<o.p+widthP o):=fun hh=>by
      have hk':¬ (o.k≠1∨o2.k=4):=by omega
      have hcl2:¬ clashP o2 o=true:=by rw [clash_symm];exact hncl'
      have ht:¬ (o2.k=4∧(o2.tc=o.c∧o2.tn=o.n)):=by omega
      have sne2:¬ (o2.k≠1):=fun h=>h q2
      have e1:exclP o2 o=(op0,23):=by
       unfold exclP;rw [if_neg hcl2,if_neg ht,if_neg hk',if_neg sne2];unfold outP;rw [if_neg (by omega),if_pos hh.1]
      rw [e1] at hq4;cases hq4
     have hinc:movP o (if o2.p≤o.p then o.p+widthP o2 else o.p)=inclP o o2 true:=by
      unfold inclP;rw [if_neg hncl',if_neg hk,if_neg sne];by_cases q:o2.p≤o.p
      ·rw [if_pos q,if_pos (show o2.p<o.p∨(o2.p=o.p∧true=true) from by rcases Int.lt_or_eq_of_le q with h|h;exact .inl h;exact .inr ⟨h,rfl⟩)];rfl
      ·rw [if_neg q,if_neg (show ¬ (o2.p<o.p∨(o2.p=o.p∧true=true)) from fun hh=>by rcases hh with h|h;omega;have:=h.1;omega)];unfold movP;rw [if_neg (by have:=h1.wfit q1;omega)]
     obtain ⟨⟨⟨c5,n5,k5,p5,s5,l5,tc5,tn5,on5⟩,z5⟩,hq5⟩:∃ q,inclP o o2 true=q:=⟨_,rfl⟩;have HMV:Hid (∀ W,Below w.heap.size w W→Calls Tryz.prog 75 #[opVal o (.slice a m cap),.int .i64 (if o2.p≤o.p then o.p+widthP o2 else o.p)] W fun e w'=>Ans W (⟨c5,n5,k5,p5,s5,l5,tc5,tn5,on5⟩,z5) e w'):=fun W hb=>by
      have:=moved_any (p2:=if o2.p≤o.p then o.p+widthP o2 else o.p) (hR.below hb) hm hs (by split<;>omega) hw1;rw [hinc,hq5] at this;exact this
     by_cases hz5:z5=0
     ·subst hz5;rw [tr0 ho _ hq5];exact transpose_ins HEX HMV _ rfl _ rfl hs hs2 ⟨s1,s2⟩ ⟨r1,r2⟩ ⟨hpos1,hw1.2⟩ ⟨hpos2,hw2.2⟩ hno q2 q1
     ·rw [trE ho _ _ hz5 hq5];exact transpose_insE HEX HMV _ rfl _ rfl hs hs2 ⟨s1,s2⟩ ⟨r1,r2⟩ ⟨hpos1,hw1.2⟩ ⟨hpos2,hw2.2⟩ hno q2 q1 hz5
    ·have hinc:inclP o o2 false=inclP o o2 true:=by
      unfold inclP;rw [if_neg hncl',if_neg hk,if_pos q1,if_neg hncl',if_neg hk,if_pos q1]
     obtain ⟨⟨⟨c5,n5,k5,p5,s5,l5,tc5,tn5,on5⟩,z5⟩,hq5⟩:∃ q,inclP o o2 true=q:=⟨_,rfl⟩;have HIN:Hid (∀ W,Below w.heap.size w W→Calls Tryz.prog 50 #[opVal o (.slice a m cap),opVal o2 (.slice b m2 cap2),.bool false] W fun e w'=>Ans W (⟨c5,n5,k5,p5,s5,l5,tc5,tn5,on5⟩,z5) e w'):=fun W hb=>by
      have:=include_any (ear:=false) (hR.below hb) hm hs hs2 h1 h2 (b:=b) (m2:=m2) (cap2:=cap2);rw [hinc,hq5] at this;exact this
     by_cases hz5:z5=0
     ·subst hz5;rw [tr0 ho _ hq5];exact transpose_cov HEX HIN _ rfl _ rfl q2 k4 q1
     ·rw [trE ho _ _ hz5 hq5];exact transpose_covE HEX HIN _ rfl _ rfl q2 k4 q1 hz5
   ·rw [tr0 ho o (by unfold inclP;rw [if_neg hncl',if_pos (.inl q2)])];exact transpose_copy HEX hR hm _ rfl _ rfl q2 k4
 ·have e1:transP o o2=((op0,op0),z4):=by
   unfold transP;rw [hq4,if_pos hz]
  rw [e1];exact transpose_err HEX hz
theorem gTranspose_any {o o2:OpV} {a:Option Addr} {m cap:Nat} {b:Option Addr} {m2 cap2:Nat} {w:World} (h1:OpOk w (o,(a,m,cap))) (h2:OpOk w (o2,(b,m2,cap2))) :
  Calls Tryz.prog 30 #[opVal o (.slice a m cap),opVal o2 (.slice b m2 cap2)] w fun e w'=>Ans2 w (xTranspose o o2) e w':=by
 have HE:Hid (∀ (W:World) (g:Nat),Below w.heap.size w W→W.heap[g]?=some (.cells (opF (o,(a,m,cap))++opF (o2,(b,m2,cap2))).toArray 33)→Calls Tryz.prog 49 #[.slice (some ⟨g,0,none⟩) 2 2] W fun e w'=>e=.returned (.int .i64 (firstErr [o,o2]))∧Below W.heap.size W w'):=fun W g hb hg=>gown_any (L:=[(o,(a,m,cap)),(o2,(b,m2,cap2))]) (two_ops hg) (fun x hx=>by
  simp at hx
  rcases hx with rfl|rfl
  ·exact h1.below hb
  ·exact h2.below hb)
 have HI:Hid (firstErr [o,o2]=0→∀ (W:World),Below w.heap.size w W→Calls Tryz.prog 53 #[opVal o (.slice a m cap),opVal o2 (.slice b m2 cap2)] W fun e w'=>Ans2 W (transP o o2) e w'):=fun h0 W hb=>transpose_any (h1.1.below hb) (h2.1.below hb) (by have:=h1.2.1;simp only at this;omega) (by have:=h2.2.1;simp only at this;omega) h1.2.2 h2.2.2 (right_of (first2 h0).1) (right_of (first2 h0).2)
 obtain ⟨q,hq⟩:∃ q,xTranspose o o2=q:=⟨_,rfl⟩;rw [hq];unfold xTranspose at hq;generalize firstErr [o,o2]=z at *;generalize transP o o2=tq at *;simp only [opF,List.cons_append,List.nil_append] at HE;clear h1 h2;obtain ⟨⟨⟨c3,n3,k3,p3,s3,l3,tc3,tn3,on3⟩,⟨c5,n5,k5,p5,s5,l5,tc5,tn5,on5⟩⟩,e3⟩:=tq;obtain ⟨c,n,k,p,s,l,tc,tn,on⟩:=o;obtain ⟨c2,n2,k2,p2,s2,l2,tc2,tn2,on2⟩:=o2;unfold Ans2 at *;simp only [opVal] at *;obtain ⟨v0,hW0⟩:∃ V,(((w.alloc (Obj.cells #[.int .i64 c,.int .i64 n,.int .i64 k,.int .i64 p,.string s,.slice a m cap,.int .i64 tc,.int .i64 tn,.bool on] 33)).alloc (Obj.cells #[.int .i64 c2,.int .i64 n2,.int .i64 k2,.int .i64 p2,.string s2,.slice b m2 cap2,.int .i64 tc2,.int .i64 tn2,.bool on2] 33)).alloc (Obj.cells #[.int .i64 0,.int .i64 0,.int .i64 0,.int .i64 0,.string ⟨#[]⟩,.slice none 0 0,.int .i64 0,.int .i64 0,.bool false] 33)).alloc (Obj.cells #[.int .i64 0,.int .i64 0,.int .i64 0,.int .i64 0,.string ⟨#[]⟩,.slice none 0 0,.int .i64 0,.int .i64 0,.bool false] 33)=V:=⟨_,rfl⟩;have hX0:v0.heap[w.heap.size]?=some (Obj.cells #[.int .i64 c,.int .i64 n,.int .i64 k,.int .i64 p,.string s,.slice a m cap,.int .i64 tc,.int .i64 tn,.bool on] 33):=by rw [← hW0];exact (Below.heap_alloc _ _ _ (by simp;omega)).trans ((Below.heap_alloc _ _ _ (by simp;omega)).trans ((Below.heap_alloc _ _ _ (by simp)).trans (heap_alloc_new _ _)))
 have hY0:v0.heap[w.heap.size+1]?=some (Obj.cells #[.int .i64 c2,.int .i64 n2,.int .i64 k2,.int .i64 p2,.string s2,.slice b m2 cap2,.int .i64 tc2,.int .i64 tn2,.bool on2] 33):=by rw [← hW0];exact (Below.heap_alloc _ _ _ (by first|(simp;done)|(simp;omega))).trans ((Below.heap_alloc _ _ _ (by simp)).trans (alloc_last _ _ _ (by simp)))
 have hZ0:v0.heap[w.heap.size+2]?=some (Obj.cells #[.int .i64 0,.int .i64 0,.int .i64 0,.int .i64 0,.string ⟨#[]⟩,.slice none 0 0,.int .i64 0,.int .i64 0,.bool false] 33):=by rw [← hW0];exact (Below.heap_alloc _ _ _ (by simp)).trans (alloc_last _ _ _ (by simp))
 have hU0:v0.heap[w.heap.size+3]?=some (Obj.cells #[.int .i64 0,.int .i64 0,.int .i64 0,.int .i64 0,.string ⟨#[]⟩,.slice none 0 0,.int .i64 0,.int .i64 0,.bool false] 33):=by rw [← hW0];exact alloc_last _ _ _ (by simp)
 have hB0:Below w.heap.size w v0:=by rw [← hW0];exact ((((bE w.heap.size w).alloc (lR _) _).alloc (by simp) _).alloc (by simp;omega) _).alloc (by simp;omega) _
 have alt0:w.heap.size+3<v0.heap.size:=(gA hU0);obtain ⟨ak0,ak1,ak2,ak3,ak4,ak5,ak6,ak7,ak8⟩:=box9 hX0;obtain ⟨bk0,bk1,bk2,bk3,bk4,bk5,bk6,bk7,bk8⟩:=box9 hY0;obtain ⟨yk0,yk1,yk2,yk3,yk4,yk5,yk6,yk7,yk8⟩:=box9 hZ0;obtain ⟨zk0,zk1,zk2,zk3,zk4,zk5,zk6,zk7,zk8⟩:=box9 hU0;obtain ⟨yy0,yy1,yy2,yy3,yy4,yy5,yy6,yy7,yy8⟩:=wr9 hZ0;obtain ⟨zz0,zz1,zz2,zz3,zz4,zz5,zz6,zz7,zz8⟩:=wr9 hU0;obtain ⟨W1,hW1⟩:∃ W1,v0.alloc (Obj.cells #[.int .i64 c,.int .i64 n,.int .i64 k,.int .i64 p,.string s,.slice a m cap,.int .i64 tc,.int .i64 tn,.bool on,.int .i64 c2,.int .i64 n2,.int .i64 k2,.int .i64 p2,.string s2,.slice b m2 cap2,.int .i64 tc2,.int .i64 tn2,.bool on2] 33)=W1:=⟨_,rfl⟩;have hT:W1.heap[v0.heap.size]?=some (Obj.cells #[.int .i64 c,.int .i64 n,.int .i64 k,.int .i64 p,.string s,.slice a m cap,.int .i64 tc,.int .i64 tn,.bool on,.int .i64 c2,.int .i64 n2,.int .i64 k2,.int .i64 p2,.string s2,.slice b m2 cap2,.int .i64 tc2,.int .i64 tn2,.bool on2] 33):=by rw [← hW1];exact heap_alloc_new _ _
 have h01:Below v0.heap.size v0 W1:=by rw [← hW1];exact (bE _ _).alloc (lR _) _
 go_enter Tryz.func30,Tryz.ntmps30;go_wp2_with fail;refine (HE.out W1 _ (hB0.trans (h01.mono hB0.size)) hT).mono ?_;rintro e v1 ⟨rfl,hb0⟩;have hb1:Below v0.heap.size v0 v1:=h01.trans (hb0.mono h01.size);clear hb0 h01 hT hW1 HE;have hX1:=(hb1.block _ (by omega)).trans hX0;have hY1:=(hb1.block _ (by omega)).trans hY0;have hZ1:=(hb1.block _ (by omega)).trans hZ0;have hU1:=(hb1.block _ (by omega)).trans hU0;have hB1:=hB0.trans (hb1.mono hB0.size);have alt1:w.heap.size+3<v1.heap.size:=(gA hU1);clear hb1 hX0 hY0 hZ0 hU0 hB0 alt0  ak0 ak1 ak2 ak3 ak4 ak5 ak6 ak7 ak8 bk0 bk1 bk2 bk3 bk4 bk5 bk6 bk7 bk8 yk0 yk1 yk2 yk3 yk4 yk5 yk6 yk7 yk8 zk0 zk1 zk2 zk3 zk4 zk5 zk6 zk7 zk8 yy0 yy1 yy2 yy3 yy4 yy5 yy6 yy7 yy8 zz0 zz1 zz2 zz3 zz4 zz5 zz6 zz7 zz8 hW0;obtain ⟨ak0,ak1,ak2,ak3,ak4,ak5,ak6,ak7,ak8⟩:=box9 hX1;obtain ⟨bk0,bk1,bk2,bk3,bk4,bk5,bk6,bk7,bk8⟩:=box9 hY1;obtain ⟨yk0,yk1,yk2,yk3,yk4,yk5,yk6,yk7,yk8⟩:=box9 hZ1;obtain ⟨zk0,zk1,zk2,zk3,zk4,zk5,zk6,zk7,zk8⟩:=box9 hU1;obtain ⟨yy0,yy1,yy2,yy3,yy4,yy5,yy6,yy7,yy8⟩:=wr9 hZ1;obtain ⟨zz0,zz1,zz2,zz3,zz4,zz5,zz6,zz7,zz8⟩:=wr9 hU1;by_cases hz:z=0
 ·subst hz;rw [if_neg (by simp)] at hq;subst hq;have HI2:=HI.out rfl v1 hB1;clear HI;go_wp2_with fail;refine HI2.mono ?_;rintro e v2 ⟨va,vm,vc,ya,ym,yc,rfl,ho2,hoy2,hb2⟩;have hv1:w.heap.size+3<v1.heap.size:=alt1;clear HI2;have hX2:=(hb2.block _ (by omega)).trans hX1;have hY2:=(hb2.block _ (by omega)).trans hY1;have hZ2:=(hb2.block _ (by omega)).trans hZ1;have hU2:=(hb2.block _ (by omega)).trans hU1;have hB2:=hB1.trans (hb2.mono hB1.size);have alt2:w.heap.size+3<v2.heap.size:=(gA hU2);clear hb2 hX1 hY1 hZ1 hU1 hB1 alt1  ak0 ak1 ak2 ak3 ak4 ak5 ak6 ak7 ak8 bk0 bk1 bk2 bk3 bk4 bk5 bk6 bk7 bk8 yk0 yk1 yk2 yk3 yk4 yk5 yk6 yk7 yk8 zk0 zk1 zk2 zk3 zk4 zk5 zk6 zk7 zk8 yy0 yy1 yy2 yy3 yy4 yy5 yy6 yy7 yy8 zz0 zz1 zz2 zz3 zz4 zz5 zz6 zz7 zz8 ;obtain ⟨ak0,ak1,ak2,ak3,ak4,ak5,ak6,ak7,ak8⟩:=box9 hX2;obtain ⟨bk0,bk1,bk2,bk3,bk4,bk5,bk6,bk7,bk8⟩:=box9 hY2;obtain ⟨yk0,yk1,yk2,yk3,yk4,yk5,yk6,yk7,yk8⟩:=box9 hZ2;obtain ⟨zk0,zk1,zk2,zk3,zk4,zk5,zk6,zk7,zk8⟩:=box9 hU2;obtain ⟨yy0,yy1,yy2,yy3,yy4,yy5,yy6,yy7,yy8⟩:=wr9 hZ2;obtain ⟨zz0,zz1,zz2,zz3,zz4,zz5,zz6,zz7,zz8⟩:=wr9 hU2;obtain ⟨W8,e8,hx8,hB8,hK8⟩:=store9 hZ2 hB2 (by omega) (.int .i64 c3) (.int .i64 n3) (.int .i64 k3) (.int .i64 p3) (.string s3) (.slice va vm vc) (.int .i64 tc3) (.int .i64 tn3) (.bool on3);have hU8:=hK8.block hU2 (by omega);obtain ⟨q0,q1,q2,q3,q4,q5,q6,q7,q8⟩:=box9 hU8;obtain ⟨qz0,qz1,qz2,qz3,qz4,qz5,qz6,qz7,qz8⟩:=wr9 hU8;obtain ⟨W9,e9,hx9,hB9,hK9⟩:=store9 hU8 hB8 (by omega) (.int .i64 c5) (.int .i64 n5) (.int .i64 k5) (.int .i64 p5) (.string s5) (.slice ya ym yc) (.int .i64 tc5) (.int .i64 tn5) (.bool on5);have hy9:=hK9.block hx8 (by omega);obtain ⟨r0,r1,r2,r3,r4,r5,r6,r7,r8⟩:=box9 hx9;obtain ⟨t0,t1,t2,t3,t4,t5,t6,t7,t8⟩:=box9 hy9;have HO1:Hid (OwnF rangeV 2 94 W9 w.heap.size (.slice va vm vc) l3):=(hK9.own (hK8.own ho2 (by omega)) (by omega)).mono (by omega);have HO2:Hid (OwnF rangeV 2 94 W9 w.heap.size (.slice ya ym yc) l5):=(hK9.own (hK8.own hoy2 (by omega)) (by omega)).mono (by omega);clear ho2 hoy2;go_wp2_with fail
  try rw [e9]
  refine bodyPost_ret (v:=.tuple #[.agg #[.int .i64 c3,.int .i64 n3,.int .i64 k3,.int .i64 p3,.string s3,.slice va vm vc,.int .i64 tc3,.int .i64 tn3,.bool on3],.agg #[.int .i64 c5,.int .i64 n5,.int .i64 k5,.int .i64 p5,.string s5,.slice ya ym yc,.int .i64 tc5,.int .i64 tn5,.bool on5],.int .i64 e3]) (by simp [results,Tryz.results30,go_sem,r0,r1,r2,r3,r4,r5,r6,r7,r8,t0,t1,t2,t3,t4,t5,t6,t7,t8]) rfl ⟨va,vm,vc,ya,ym,yc,rfl,HO1.out,HO2.out,hB9⟩
 ·rw [if_pos hz] at hq;subst hq;have t1:(z==0)=false:=nB hz;have t2:(z != 0)=true:=by simp [bne,t1]
  have t3:decide (z=0)=false:=decide_eq_false hz;clear HI;obtain ⟨W8,e8,hx8,hB8,hK8⟩:=store9 hZ1 hB1 (by omega) (.int .i64 0) (.int .i64 0) (.int .i64 0) (.int .i64 0) (.string ⟨#[]⟩) (.slice none 0 0) (.int .i64 0) (.int .i64 0) (.bool false);have hU8:=hK8.block hU1 (by omega);obtain ⟨q0,q1,q2,q3,q4,q5,q6,q7,q8⟩:=box9 hU8;obtain ⟨qz0,qz1,qz2,qz3,qz4,qz5,qz6,qz7,qz8⟩:=wr9 hU8;obtain ⟨W9,e9,hx9,hB9,hK9⟩:=store9 hU8 hB8 (by omega) (.int .i64 0) (.int .i64 0) (.int .i64 0) (.int .i64 0) (.string ⟨#[]⟩) (.slice none 0 0) (.int .i64 0) (.int .i64 0) (.bool false);have hy9:=hK9.block hx8 (by omega);obtain ⟨r0,r1,r2,r3,r4,r5,r6,r7,r8⟩:=box9 hx9;obtain ⟨t0,t1,t2,t3,t4,t5,t6,t7,t8⟩:=box9 hy9;go_wp2_with fail
  try rw [e9]
  refine bodyPost_ret (v:=.tuple #[.agg #[.int .i64 0,.int .i64 0,.int .i64 0,.int .i64 0,.string ⟨#[]⟩,.slice none 0 0,.int .i64 0,.int .i64 0,.bool false],.agg #[.int .i64 0,.int .i64 0,.int .i64 0,.int .i64 0,.string ⟨#[]⟩,.slice none 0 0,.int .i64 0,.int .i64 0,.bool false],.int .i64 z]) (by simp [results,Tryz.results30,go_sem,r0,r1,r2,r3,r4,r5,r6,r7,r8,t0,t1,t2,t3,t4,t5,t6,t7,t8]) rfl ⟨none,0,0,none,0,0,rfl,ownF_nil _ _,ownF_nil _ _,hB9⟩
end Go.Proofs.YtmeciikfnbbllaaGreatDoor
