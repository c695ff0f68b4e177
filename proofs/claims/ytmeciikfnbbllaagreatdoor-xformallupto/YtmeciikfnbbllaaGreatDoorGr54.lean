import Derived.Test.YtmeciikfnbbllaaGreatDoorAl
import Derived.Test.YtmeciikfnbbllaaGreatDoorGr71
import Derived.Test.YtmeciikfnbbllaaGreatDoorGr67
set_option maxHeartbeats 8000000
set_option maxRecDepth 100000
namespace Go.Proofs.YtmeciikfnbbllaaGreatDoor
open Go.RowKit Go.Lib
def rowR:List OpV→OpV→(List OpV×OpV)×Int
 | [],l=>(([],l),0)
 | f::F,l=>if (inclP l f true).2≠0 then (([],op0),(inclP l f true).2) else if (inclP f l false).2≠0 then (([],op0),(inclP f l false).2)
  else (((inclP f l false).1::(rowR F (inclP l f true).1).1.1,(rowR F (inclP l f true).1).1.2),(rowR F (inclP l f true).1).2)
def allR:List OpV→List OpV→(List OpV×List OpV)×Int
 | F,[]=>((F,[]),0)
 | F,l::L=>if (rowR F l).2≠0 then (([],[]),(rowR F l).2) else if (allR (rowR F l).1.1 L).2≠0 then (([],[]),(allR (rowR F l).1.1 L).2)
  else (((allR (rowR F l).1.1 L).1.1,(rowR F l).1.2::(allR (rowR F l).1.1 L).1.2),0)
def xCross (F L:List OpV):(List OpV×List OpV)×Int :=
 if firstErr F≠0 then (([],[]),firstErr F) else if firstErr L≠0 then (([],[]),firstErr L) else allR F L
def no2 (e:Int):(List OpV×List OpV)×Int:=(([],[]),e)
def LeftC (fin:(List OpV×List OpV)×Int) (F L:List OpV) (i:Nat):Prop :=
 fin=if (allR F (L.drop i)).2≠0 then allR F (L.drop i) else (((allR F (L.drop i)).1.1,L.take i++(allR F (L.drop i)).1.2),0)
structure CrS (fin:(List OpV×List OpV)×Int) (n m i:Nat) (F L:List OpV):Prop where
 lenF:F.length=n
 lenL:L.length=m
 rF:∀ x∈F,Right x
 rL:∀ x∈L,Right x
 eq:LeftC fin F L i
structure CrT (fin:(List OpV×List OpV)×Int) (n m i j:Nat) (F L:List OpV) (l:OpV):Prop where
 lenF:F.length=n
 lenL:L.length=m
 rF:∀ x∈F,Right x
 rL:∀ x∈L,Right x
 at_:L[i]?=some l
 bad:(rowR (F.drop j) l).2≠0→fin=no2 (rowR (F.drop j) l).2
 good:(rowR (F.drop j) l).2=0→LeftC fin (F.take j++(rowR (F.drop j) l).1.1) (L.set i (rowR (F.drop j) l).1.2) (i+1)
theorem take_set_at {α:Type} {L:List α} {i:Nat} {x y:α} (h:L[i]?=some x):(L.set i y).take (i+1)=L.take i++[y]:=by
 obtain ⟨hi,rfl⟩:=List.getElem?_eq_some_iff.1 h;rw [List.take_succ_eq_append_getElem (by rw [List.length_set];exact hi),List.take_set_of_le (lR _),List.getElem_set_self]
theorem drop_set_at {α:Type} (L:List α) (i:Nat) (y:α):(L.set i y).drop (i+1)=L.drop (i+1):=List.drop_set_of_lt (Nat.lt_succ_self _)
theorem crs_start {F L:List OpV} (hF:∀ x∈F,Right x) (hL:∀ x∈L,Right x):CrS (allR F L) F.length L.length 0 F L:=by
 refine ⟨rfl,rfl,hF,hL,?_⟩;unfold LeftC;rw [List.drop_zero,List.take_zero,List.nil_append];by_cases h:(allR F L).2≠0
 ·rw [if_pos h]
 ·rw [if_neg h];exact Prod.ext (Prod.ext rfl rfl) (Classical.not_not.1 h)
theorem allR_bad {F L:List OpV} {l:OpV} (h:(rowR F l).2≠0):allR F (l::L)=no2 (rowR F l).2:=by
 rw [allR,if_pos h];rfl
theorem allR_bad2 {F L:List OpV} {l:OpV} (h:(rowR F l).2=0) (h2:(allR (rowR F l).1.1 L).2≠0):allR F (l::L)=no2 (allR (rowR F l).1.1 L).2:=by
 rw [allR,if_neg (fun e=>e h),if_pos h2];rfl
theorem allR_good {F L:List OpV} {l:OpV} (h:(rowR F l).2=0) (h2:(allR (rowR F l).1.1 L).2=0):allR F (l::L)=(((allR (rowR F l).1.1 L).1.1,(rowR F l).1.2::(allR (rowR F l).1.1 L).1.2),0):=by
 rw [allR,if_neg (fun e=>e h),if_neg (fun e=>e h2)]
theorem allR_no2:∀ (F L:List OpV),(allR F L).2≠0→allR F L=no2 (allR F L).2
 | F,[],h=>absurd rfl h
 | F,l::L,h=>by
  by_cases h1:(rowR F l).2≠0
  ·rw [allR_bad h1];rfl
  ·by_cases h2:(allR (rowR F l).1.1 L).2≠0
   ·rw [allR_bad2 (Classical.not_not.1 h1) h2];rfl
   ·rw [allR_good (Classical.not_not.1 h1) (Classical.not_not.1 h2)] at h;exact absurd rfl h
theorem crs_end {fin:(List OpV×List OpV)×Int} {n m:Nat} {F L:List OpV} (h:CrS fin n m m F L):fin=((F,L),0):=by
 have:=h.eq;unfold LeftC at this;rw [List.drop_of_length_le (by rw [h.lenL];exact lR _),List.take_of_length_le (by rw [h.lenL];exact lR _)] at this;simpa [allR] using this
theorem crs_row {fin:(List OpV×List OpV)×Int} {n m i:Nat} {F L:List OpV} (h:CrS fin n m i F L) (hi:i<m):∃ l,CrT fin n m i 0 F L l:=by
 have hil:i<L.length:=by rw [h.lenL];exact hi
 have hl:L[i]?=some L[i]:=List.getElem?_eq_getElem hil;have he:=h.eq;unfold LeftC at he;rw [drop_at hl] at he;refine ⟨L[i],h.lenF,h.lenL,h.rF,h.rL,hl,fun h0=>?_,fun h0=>?_⟩
 ·rw [List.drop_zero] at h0 ⊢;rw [allR_bad h0,if_pos (by exact h0)] at he;exact he
 ·rw [List.drop_zero] at h0 ⊢;rw [List.take_zero,List.nil_append];unfold LeftC;rw [drop_set_at,take_set_at hl];by_cases h2:(allR (rowR F L[i]).1.1 (L.drop (i+1))).2≠0
  ·rw [allR_bad2 h0 h2,if_pos (by exact h2)] at he;rw [if_pos h2,allR_no2 _ _ h2];exact he
  ·have h3:=Classical.not_not.1 h2;rw [allR_good h0 h3,if_neg (by simp)] at he;rw [if_neg h2,he,List.append_assoc];rfl
theorem crt_step {fin:(List OpV×List OpV)×Int} {n m i j:Nat} {F L:List OpV} {l f:OpV} (h:CrT fin n m i j F L l) (hf:F[j]?=some f) :
  ((inclP l f true).2≠0→fin=no2 (inclP l f true).2)∧((inclP l f true).2=0→(inclP f l false).2≠0→fin=no2 (inclP f l false).2) ∧
  ((inclP l f true).2=0→(inclP f l false).2=0→CrT fin n m i (j+1) (F.set j (inclP f l false).1) (L.set i (inclP l f true).1) (inclP l f true).1):=by
 have hb:=h.bad;have hg:=h.good;rw [drop_at hf] at hb hg;unfold rowR at hb hg;have hil:i<L.length:=(List.getElem?_eq_some_iff.1 h.at_).1;have rf:Right f:=h.rF f (List.mem_of_getElem? hf);have rl:Right l:=h.rL l (List.mem_of_getElem? h.at_);refine ⟨fun e1=>?_,fun e1 e2=>?_,fun e1 e2=>?_⟩
 ·rw [if_pos e1] at hb;exact hb e1
 ·rw [if_neg (by simp [e1]),if_pos e2] at hb;exact hb e2
 ·rw [if_neg (by simp [e1]),if_neg (by simp [e2])] at hb hg;have q1:=inclP_right rl rf e1;have q2:=inclP_right rf rl e2;refine ⟨by rw [List.length_set];exact h.lenF,by rw [List.length_set];exact h.lenL,fun x hx=>?_,fun x hx=>?_,by rw [List.getElem?_set_self hil],fun e=>?_,fun e=>?_⟩
  ·rcases List.mem_or_eq_of_mem_set hx with hx|rfl
   ·exact h.rF x hx
   ·exact q2
  ·rcases List.mem_or_eq_of_mem_set hx with hx|rfl
   ·exact h.rL x hx
   ·exact q1
  ·rw [drop_set_at] at e ⊢;exact hb e
  ·rw [drop_set_at] at e ⊢;have:=hg e;rw [take_set_at hf,List.set_set,List.append_assoc];exact this
theorem crt_end {fin:(List OpV×List OpV)×Int} {n m i:Nat} {F L:List OpV} {l:OpV} (h:CrT fin n m i n F L l):CrS fin n m (i+1) F L:=by
 have hg:=h.good;rw [List.drop_of_length_le (by rw [h.lenF];exact lR _),List.take_of_length_le (by rw [h.lenF];exact lR _)] at hg;have hg:=hg rfl;simp only [rowR,List.append_nil] at hg;have e:L.set i l=L:=by
  obtain ⟨hi,e⟩:=List.getElem?_eq_some_iff.1 h.at_;rw [← e,List.set_getElem_self]
 rw [e] at hg;exact ⟨h.lenF,h.lenL,h.rF,h.rL,hg⟩
def crossP (f l:OpV):(OpV×OpV)×Int :=
 if (inclP l f true).2≠0 then ((op0,op0),(inclP l f true).2) else (((inclP f l false).1,(inclP l f true).1),(inclP f l false).2)
theorem crossP_ok {f l:OpV} (h:(crossP f l).2=0):(inclP l f true).2=0∧(inclP f l false).2=0∧(crossP f l).1=((inclP f l false).1,(inclP l f true).1):=by
 unfold crossP at h ⊢;by_cases e:(inclP l f true).2≠0
 ·rw [if_pos e] at h;exact absurd h e
 ·rw [if_neg e] at h ⊢;exact ⟨Classical.not_not.1 e,h,rfl⟩
theorem crt_next {fin:(List OpV×List OpV)×Int} {n m i j:Nat} {F L:List OpV} {l f:OpV} (h:CrT fin n m i j F L l) (hf:F[j]?=some f) :
  ((crossP f l).2≠0→fin=no2 (crossP f l).2)∧((crossP f l).2=0→CrT fin n m i (j+1) (F.set j (crossP f l).1.1) (L.set i (crossP f l).1.2) (crossP f l).1.2):=by
 obtain ⟨s1,s2,s3⟩:=crt_step h hf;refine ⟨fun e=>?_,fun e=>?_⟩
 ·unfold crossP at e ⊢;by_cases e1:(inclP l f true).2≠0
  ·rw [if_pos e1];exact s1 e1
  ·rw [if_neg e1] at e ⊢;exact s2 (Classical.not_not.1 e1) e
 ·obtain ⟨e1,e2,e3⟩:=crossP_ok e;rw [e3];exact s3 e1 e2
theorem crossP_few {f l:OpV} (h1:Right f) (h2:Right l):((crossP f l).1.1.l.length≤32768∧(crossP f l).1.1.s.size≤f.s.size)∧(crossP f l).1.2.l.length≤32768∧(crossP f l).1.2.s.size≤l.s.size:=by
 unfold crossP;by_cases e1:(inclP l f true).2≠0
 ·rw [if_pos e1];exact ⟨⟨Nat.zero_le _,Nat.zero_le _⟩,Nat.zero_le _,Nat.zero_le _⟩
 ·rw [if_neg e1];exact ⟨⟨inclP_few false h1,inclP_s f l false⟩,inclP_few true h2,inclP_s l f true⟩
theorem crossed_run {o o2:OpV} {a:Option Addr} {m cap:Nat} {b:Option Addr} {m2 cap2:Nat} {w:World} (hR:Sp.Rng w a m cap o.l) (hR2:Sp.Rng w b m2 cap2 o2.l) (hs1:o.s.size≤9223372036854775807) (hs2:o2.s.size≤9223372036854775807) (hw:Bar w) (r1:Right o) (r2:Right o2) (e1:(inclP o2 o true).2=0) :
  Calls Tryz.prog 82 #[opVal o (.slice a m cap),opVal o2 (.slice b m2 cap2)] w fun e w'=>∃ va vm vc ya ym yc,e=.returned (.tuple #[opVal (inclP o o2 false).1 (.slice va vm vc),opVal (inclP o2 o true).1 (.slice ya ym yc),.int .i64 (inclP o o2 false).2])∧Src (.slice a m cap) o.l w w' (.slice va vm vc) (inclP o o2 false).1.l∧Src (.slice b m2 cap2) o2.l w w' (.slice ya ym yc) (inclP o2 o true).1.l∧Below w.heap.size w w':=by
 have HI1:Hid (∀ (W:World),Below w.heap.size w W→Calls Tryz.prog 21 #[opVal o2 (.slice b m2 cap2),opVal o (.slice a m cap),.bool true] W fun e w'=>∃ va vm vc,e=.returned (.tuple #[opVal (inclP o2 o true).1 (.slice va vm vc),.int .i64 0])∧Src (.slice b m2 cap2) o2.l W w' (.slice va vm vc) (inclP o2 o true).1.l∧Below W.heap.size W w'):=fun W hb=>by
  have:=included_any (ear:=true) (b:=a) (m2:=m) (cap2:=cap) (hR2.below hb) (by omega) (by omega) (hw.below hb) r2 r1;rw [e1] at this;exact this
 have HI2:Hid (∀ (W:World),Below w.heap.size w W→Calls Tryz.prog 21 #[opVal o (.slice a m cap),opVal o2 (.slice b m2 cap2),.bool false] W fun e w'=>∃ va vm vc,e=.returned (.tuple #[opVal (inclP o o2 false).1 (.slice va vm vc),.int .i64 (inclP o o2 false).2])∧Src (.slice a m cap) o.l W w' (.slice va vm vc) (inclP o o2 false).1.l∧Below W.heap.size W w'):=fun W hb=>by
  have:=included_any (ear:=false) (b:=b) (m2:=m2) (cap2:=cap2) (hR.below hb) (by omega) (by omega) (hw.below hb) r1 r2;exact this
 clear e1;generalize (inclP o o2 false).2=z2 at *;generalize (inclP o o2 false).1=q1 at *;generalize (inclP o2 o true).1=q2 at *;clear hR hR2 hs1 hs2 hw r1 r2;obtain ⟨c3,n3,k3,p3,s3,l3,tc3,tn3,on3⟩:=q1;obtain ⟨c4,n4,k4,p4,s4,l4,tc4,tn4,on4⟩:=q2;obtain ⟨c,n,k,p,s,l,tc,tn,on⟩:=o;obtain ⟨c2,n2,k2,p2,s2,l2,tc2,tn2,on2⟩:=o2;simp only [opVal] at *;obtain ⟨W0,hW0⟩:∃ W0,(((w.alloc (Obj.cells #[.int .i64 c,.int .i64 n,.int .i64 k,.int .i64 p,.string s,.slice a m cap,.int .i64 tc,.int .i64 tn,.bool on] 33)).alloc (Obj.cells #[.int .i64 c2,.int .i64 n2,.int .i64 k2,.int .i64 p2,.string s2,.slice b m2 cap2,.int .i64 tc2,.int .i64 tn2,.bool on2] 33)).alloc (Obj.cells #[.int .i64 0,.int .i64 0,.int .i64 0,.int .i64 0,.string ⟨#[]⟩,.slice none 0 0,.int .i64 0,.int .i64 0,.bool false] 33)).alloc (Obj.cells #[.int .i64 0,.int .i64 0,.int .i64 0,.int .i64 0,.string ⟨#[]⟩,.slice none 0 0,.int .i64 0,.int .i64 0,.bool false] 33)=W0:=⟨_,rfl⟩;have hX:W0.heap[w.heap.size]?=some (Obj.cells #[.int .i64 c,.int .i64 n,.int .i64 k,.int .i64 p,.string s,.slice a m cap,.int .i64 tc,.int .i64 tn,.bool on] 33):=by rw [← hW0];exact (Below.heap_alloc _ _ _ (by simp;omega)).trans ((Below.heap_alloc _ _ _ (by simp;omega)).trans ((Below.heap_alloc _ _ _ (by simp)).trans (alloc_last _ _ _ rfl)))
 have hY:W0.heap[w.heap.size+1]?=some (Obj.cells #[.int .i64 c2,.int .i64 n2,.int .i64 k2,.int .i64 p2,.string s2,.slice b m2 cap2,.int .i64 tc2,.int .i64 tn2,.bool on2] 33):=by rw [← hW0];exact (Below.heap_alloc _ _ _ (by first|(simp;done)|(simp;omega))).trans ((Below.heap_alloc _ _ _ (by simp)).trans (alloc_last _ _ _ (by simp)))
 have hZ:W0.heap[w.heap.size+2]?=some (Obj.cells #[.int .i64 0,.int .i64 0,.int .i64 0,.int .i64 0,.string ⟨#[]⟩,.slice none 0 0,.int .i64 0,.int .i64 0,.bool false] 33):=by rw [← hW0];exact (Below.heap_alloc _ _ _ (by simp)).trans (alloc_last _ _ _ (by simp))
 have hV:W0.heap[w.heap.size+3]?=some (Obj.cells #[.int .i64 0,.int .i64 0,.int .i64 0,.int .i64 0,.string ⟨#[]⟩,.slice none 0 0,.int .i64 0,.int .i64 0,.bool false] 33):=by rw [← hW0];exact alloc_last _ _ _ (by simp)
 have hB0:Below w.heap.size w W0:=by rw [← hW0];exact ((((bE w.heap.size w).alloc (lR _) _).alloc (by simp) _).alloc (by simp;omega) _).alloc (by simp;omega) _
 have alt:w.heap.size<W0.heap.size:=(gA hX);have blt:w.heap.size+1<W0.heap.size:=(gA hY);have zlt:w.heap.size+2<W0.heap.size:=(gA hZ);have vlt:w.heap.size+3<W0.heap.size:=(gA hV);obtain ⟨ak0,ak1,ak2,ak3,ak4,ak5,ak6,ak7,ak8⟩:=box9 hX;obtain ⟨bk0,bk1,bk2,bk3,bk4,bk5,bk6,bk7,bk8⟩:=box9 hY;go_enter Tryz.func82,Tryz.ntmps82;go_wp2_with fail;refine (HI1.out _ hB0).mono ?_;rintro e w1 ⟨ya,ym,yc,rfl,hS,hcur⟩;have hB1:=hB0.trans (hcur.mono hB0.size);have hX1:=(hcur.block _ alt).trans hX;have hY1:=(hcur.block _ blt).trans hY;have hZ1:=(hcur.block _ zlt).trans hZ;have hV1:=(hcur.block _ vlt).trans hV;obtain ⟨W9,e9,hx9,hB9,hK9⟩:=store9 hV1 hB1 (by omega) (.int .i64 c4) (.int .i64 n4) (.int .i64 k4) (.int .i64 p4) (.string s4) (.slice ya ym yc) (.int .i64 tc4) (.int .i64 tn4) (.bool on4);have HS1:Hid (Src (.slice b m2 cap2) l2 W0 W9 (.slice ya ym yc) l4):=hS.step hK9 vlt (lR _);have zlt0:=zlt;have h0s:=hB0.size;obtain ⟨d0,d1,d2,d3,d4,d5,d6,d7,d8⟩:=box9 hV1;obtain ⟨dz0,dz1,dz2,dz3,dz4,dz5,dz6,dz7,dz8⟩:=wr9 hV1;clear ak0 ak1 ak2 ak3 ak4 ak5 ak6 ak7 ak8 bk0 bk1 bk2 bk3 bk4 bk5 bk6 bk7 bk8 HI1 hS;have hX2:=hK9.block hX1 (by omega);have hY2:=hK9.block hY1 (by omega);have hZ2:=hK9.block hZ1 (by omega);obtain ⟨ak0,ak1,ak2,ak3,ak4,ak5,ak6,ak7,ak8⟩:=box9 hX2;obtain ⟨bk0,bk1,bk2,bk3,bk4,bk5,bk6,bk7,bk8⟩:=box9 hY2;have HI3:=HI2.out W9 hB9;clear hX1 hY1 hZ1 hB1 hX hY hZ hV hB0 hcur alt blt zlt vlt hW0 HI2;go_wp2_with fail
 try rw [e9]
 refine HI3.mono ?_;rintro e w2 ⟨va,vm,vc,rfl,hS,hcur⟩;have alt:w.heap.size<W9.heap.size:=(gA hX2);have zlt:w.heap.size+2<W9.heap.size:=(gA hZ2);have vlt:w.heap.size+3<W9.heap.size:=(gA hx9);have hB2:=hB9.trans (hcur.mono hB9.size);have hZ3:=(hcur.block _ zlt).trans hZ2;have hV3:=(hcur.block _ vlt).trans hx9;have HS2:=HS1.out.below hcur;clear ak0 ak1 ak2 ak3 ak4 ak5 ak6 ak7 ak8 bk0 bk1 bk2 bk3 bk4 bk5 bk6 bk7 bk8 d0 dz0 d1 dz1 d2 dz2 d3 dz3 d4 dz4 d5 dz5 d6 dz6 d7 dz7 d8 dz8 e9 hV1;obtain ⟨W8,e8,hx8,hB8,hK8⟩:=store9 hZ3 hB2 (by omega) (.int .i64 c3) (.int .i64 n3) (.int .i64 k3) (.int .i64 p3) (.string s3) (.slice va vm vc) (.int .i64 tc3) (.int .i64 tn3) (.bool on3);obtain ⟨d0,d1,d2,d3,d4,d5,d6,d7,d8⟩:=box9 hZ3;obtain ⟨dz0,dz1,dz2,dz3,dz4,dz5,dz6,dz7,dz8⟩:=wr9 hZ3;have hV8:=hK8.block hV3 (by omega);obtain ⟨r0,r1,r2,r3,r4,r5,r6,r7,r8⟩:=box9 hx8;obtain ⟨q0,q1,q2,q3,q4,q5,q6,q7,q8⟩:=box9 hV8;obtain ⟨rz0,rz1,rz2,rz3,rz4,rz5,rz6,rz7,rz8⟩:=wr9 hx8;obtain ⟨qz0,qz1,qz2,qz3,qz4,qz5,qz6,qz7,qz8⟩:=wr9 hV8;have HS3:Hid (Src (.slice a m cap) l w W8 (.slice va vm vc) l3):=hS.step hK8 zlt hB9.size;have HS4:Hid (Src (.slice b m2 cap2) l2 w W8 (.slice ya ym yc) l4):=HS2.step hK8 zlt0 h0s;have sr0:W8.drew.setCell ⟨w.heap.size+2,0,none⟩ (.int .i64 c3)=W8.drew:=setCell_self (by simpa using r0);have sr1:W8.drew.setCell ⟨w.heap.size+2,1,none⟩ (.int .i64 n3)=W8.drew:=setCell_self (by simpa using r1);have sr2:W8.drew.setCell ⟨w.heap.size+2,2,none⟩ (.int .i64 k3)=W8.drew:=setCell_self (by simpa using r2);have sr3:W8.drew.setCell ⟨w.heap.size+2,3,none⟩ (.int .i64 p3)=W8.drew:=setCell_self (by simpa using r3);have sr4:W8.drew.setCell ⟨w.heap.size+2,4,none⟩ (.string s3)=W8.drew:=setCell_self (by simpa using r4);have sr5:W8.drew.setCell ⟨w.heap.size+2,5,none⟩ (.slice va vm vc)=W8.drew:=setCell_self (by simpa using r5);have sr6:W8.drew.setCell ⟨w.heap.size+2,6,none⟩ (.int .i64 tc3)=W8.drew:=setCell_self (by simpa using r6);have sr7:W8.drew.setCell ⟨w.heap.size+2,7,none⟩ (.int .i64 tn3)=W8.drew:=setCell_self (by simpa using r7);have sr8:W8.drew.setCell ⟨w.heap.size+2,8,none⟩ (.bool on3)=W8.drew:=setCell_self (by simpa using r8);have sq0:W8.drew.setCell ⟨w.heap.size+3,0,none⟩ (.int .i64 c4)=W8.drew:=setCell_self (by simpa using q0);have sq1:W8.drew.setCell ⟨w.heap.size+3,1,none⟩ (.int .i64 n4)=W8.drew:=setCell_self (by simpa using q1);have sq2:W8.drew.setCell ⟨w.heap.size+3,2,none⟩ (.int .i64 k4)=W8.drew:=setCell_self (by simpa using q2);have sq3:W8.drew.setCell ⟨w.heap.size+3,3,none⟩ (.int .i64 p4)=W8.drew:=setCell_self (by simpa using q3);have sq4:W8.drew.setCell ⟨w.heap.size+3,4,none⟩ (.string s4)=W8.drew:=setCell_self (by simpa using q4);have sq5:W8.drew.setCell ⟨w.heap.size+3,5,none⟩ (.slice ya ym yc)=W8.drew:=setCell_self (by simpa using q5);have sq6:W8.drew.setCell ⟨w.heap.size+3,6,none⟩ (.int .i64 tc4)=W8.drew:=setCell_self (by simpa using q6);have sq7:W8.drew.setCell ⟨w.heap.size+3,7,none⟩ (.int .i64 tn4)=W8.drew:=setCell_self (by simpa using q7);have sq8:W8.drew.setCell ⟨w.heap.size+3,8,none⟩ (.bool on4)=W8.drew:=setCell_self (by simpa using q8);clear HI3 HS1 HS2 hS hZ3 hV3 hB2 hcur;go_wp2_with fail
 try rw [e8]
 go_region
 all_goals
  go_wp2_with fail;refine bodyPost_ret (v:=.tuple #[.agg #[.int .i64 c3,.int .i64 n3,.int .i64 k3,.int .i64 p3,.string s3,.slice va vm vc,.int .i64 tc3,.int .i64 tn3,.bool on3],.agg #[.int .i64 c4,.int .i64 n4,.int .i64 k4,.int .i64 p4,.string s4,.slice ya ym yc,.int .i64 tc4,.int .i64 tn4,.bool on4],.int .i64 z2]) (by simp [results,Tryz.results82,go_sem,r0,r1,r2,r3,r4,r5,r6,r7,r8,q0,q1,q2,q3,q4,q5,q6,q7,q8]) rfl ⟨va,vm,vc,ya,ym,yc,rfl,HS3.out.below (bE _ _).drew,HS4.out.below (bE _ _).drew,hB8.drew⟩
theorem crossed_bad {o o2:OpV} {a:Option Addr} {m cap:Nat} {b:Option Addr} {m2 cap2:Nat} {w:World} (hR2:Sp.Rng w b m2 cap2 o2.l) (hs1:o.s.size≤9223372036854775807) (hs2:o2.s.size≤9223372036854775807) (hw:Bar w) (r1:Right o) (r2:Right o2) (e1:(inclP o2 o true).2≠0) :
  Calls Tryz.prog 82 #[opVal o (.slice a m cap),opVal o2 (.slice b m2 cap2)] w fun e w'=>∃ va vm vc ya ym yc,e=.returned (.tuple #[opVal op0 (.slice va vm vc),opVal op0 (.slice ya ym yc),.int .i64 (inclP o2 o true).2])∧Src (.slice a m cap) o.l w w' (.slice va vm vc) op0.l∧Src (.slice b m2 cap2) o2.l w w' (.slice ya ym yc) op0.l∧Below w.heap.size w w':=by
 have HI1:Hid (∀ (W:World),Below w.heap.size w W→Calls Tryz.prog 21 #[opVal o2 (.slice b m2 cap2),opVal o (.slice a m cap),.bool true] W fun e w'=>∃ va vm vc,e=.returned (.tuple #[opVal (inclP o2 o true).1 (.slice va vm vc),.int .i64 (inclP o2 o true).2])∧Src (.slice b m2 cap2) o2.l W w' (.slice va vm vc) (inclP o2 o true).1.l∧Below W.heap.size W w'):=fun W hb=>by
  have:=included_any (ear:=true) (b:=a) (m2:=m) (cap2:=cap) (hR2.below hb) (by omega) (by omega) (hw.below hb) r2 r1;exact this
 generalize (inclP o2 o true).2=z1 at *;generalize (inclP o2 o true).1=q2 at *;clear hR2 hs1 hs2 hw r1 r2;obtain ⟨c4,n4,k4,p4,s4,l4,tc4,tn4,on4⟩:=q2;obtain ⟨c,n,k,p,s,l,tc,tn,on⟩:=o;obtain ⟨c2,n2,k2,p2,s2,l2,tc2,tn2,on2⟩:=o2;simp only [opVal] at *;obtain ⟨W0,hW0⟩:∃ W0,(((w.alloc (Obj.cells #[.int .i64 c,.int .i64 n,.int .i64 k,.int .i64 p,.string s,.slice a m cap,.int .i64 tc,.int .i64 tn,.bool on] 33)).alloc (Obj.cells #[.int .i64 c2,.int .i64 n2,.int .i64 k2,.int .i64 p2,.string s2,.slice b m2 cap2,.int .i64 tc2,.int .i64 tn2,.bool on2] 33)).alloc (Obj.cells #[.int .i64 0,.int .i64 0,.int .i64 0,.int .i64 0,.string ⟨#[]⟩,.slice none 0 0,.int .i64 0,.int .i64 0,.bool false] 33)).alloc (Obj.cells #[.int .i64 0,.int .i64 0,.int .i64 0,.int .i64 0,.string ⟨#[]⟩,.slice none 0 0,.int .i64 0,.int .i64 0,.bool false] 33)=W0:=⟨_,rfl⟩;have hX:W0.heap[w.heap.size]?=some (Obj.cells #[.int .i64 c,.int .i64 n,.int .i64 k,.int .i64 p,.string s,.slice a m cap,.int .i64 tc,.int .i64 tn,.bool on] 33):=by rw [← hW0];exact (Below.heap_alloc _ _ _ (by simp;omega)).trans ((Below.heap_alloc _ _ _ (by simp;omega)).trans ((Below.heap_alloc _ _ _ (by simp)).trans (alloc_last _ _ _ rfl)))
 have hY:W0.heap[w.heap.size+1]?=some (Obj.cells #[.int .i64 c2,.int .i64 n2,.int .i64 k2,.int .i64 p2,.string s2,.slice b m2 cap2,.int .i64 tc2,.int .i64 tn2,.bool on2] 33):=by rw [← hW0];exact (Below.heap_alloc _ _ _ (by first|(simp;done)|(simp;omega))).trans ((Below.heap_alloc _ _ _ (by simp)).trans (alloc_last _ _ _ (by simp)))
 have hZ:W0.heap[w.heap.size+2]?=some (Obj.cells #[.int .i64 0,.int .i64 0,.int .i64 0,.int .i64 0,.string ⟨#[]⟩,.slice none 0 0,.int .i64 0,.int .i64 0,.bool false] 33):=by rw [← hW0];exact (Below.heap_alloc _ _ _ (by simp)).trans (alloc_last _ _ _ (by simp))
 have hV:W0.heap[w.heap.size+3]?=some (Obj.cells #[.int .i64 0,.int .i64 0,.int .i64 0,.int .i64 0,.string ⟨#[]⟩,.slice none 0 0,.int .i64 0,.int .i64 0,.bool false] 33):=by rw [← hW0];exact alloc_last _ _ _ (by simp)
 have hB0:Below w.heap.size w W0:=by rw [← hW0];exact ((((bE w.heap.size w).alloc (lR _) _).alloc (by simp) _).alloc (by simp;omega) _).alloc (by simp;omega) _
 have alt:w.heap.size<W0.heap.size:=(gA hX);have blt:w.heap.size+1<W0.heap.size:=(gA hY);have zlt:w.heap.size+2<W0.heap.size:=(gA hZ);have vlt:w.heap.size+3<W0.heap.size:=(gA hV);obtain ⟨ak0,ak1,ak2,ak3,ak4,ak5,ak6,ak7,ak8⟩:=box9 hX;obtain ⟨bk0,bk1,bk2,bk3,bk4,bk5,bk6,bk7,bk8⟩:=box9 hY;go_enter Tryz.func82,Tryz.ntmps82;go_wp2_with fail;refine (HI1.out _ hB0).mono ?_;rintro e w1 ⟨ya,ym,yc,rfl,hS,hcur⟩;have hB1:=hB0.trans (hcur.mono hB0.size);have hX1:=(hcur.block _ alt).trans hX;have hY1:=(hcur.block _ blt).trans hY;have hZ1:=(hcur.block _ zlt).trans hZ;have hV1:=(hcur.block _ vlt).trans hV;obtain ⟨W9,e9,hx9,hB9,hK9⟩:=store9 hV1 hB1 (by omega) (.int .i64 c4) (.int .i64 n4) (.int .i64 k4) (.int .i64 p4) (.string s4) (.slice ya ym yc) (.int .i64 tc4) (.int .i64 tn4) (.bool on4);obtain ⟨d0,d1,d2,d3,d4,d5,d6,d7,d8⟩:=box9 hV1;obtain ⟨dz0,dz1,dz2,dz3,dz4,dz5,dz6,dz7,dz8⟩:=wr9 hV1;clear ak0 bk0 ak1 bk1 ak2 bk2 ak3 bk3 ak4 bk4 ak5 bk5 ak6 bk6 ak7 bk7 ak8 bk8 HI1 hS;have hZ2:=hK9.block hZ1 (by omega);have t1:(z1==0)=false:=nB e1;have t2:(z1 != 0)=true:=by simp [bne,t1]
 have t3:decide (z1=0)=false:=decide_eq_false e1;obtain ⟨W8,e8,hx8,hB8,hK8⟩:=store9 hZ2 hB9 (by omega) (.int .i64 0) (.int .i64 0) (.int .i64 0) (.int .i64 0) (.string ⟨#[]⟩) (.slice none 0 0) (.int .i64 0) (.int .i64 0) (.bool false);have hV8:=hK8.block hx9 (by omega);obtain ⟨W7,e7,hx7,hB7,hK7⟩:=store9 hV8 hB8 (by omega) (.int .i64 0) (.int .i64 0) (.int .i64 0) (.int .i64 0) (.string ⟨#[]⟩) (.slice none 0 0) (.int .i64 0) (.int .i64 0) (.bool false);have hZ7:=hK7.block hx8 (by omega);obtain ⟨f0,f1,f2,f3,f4,f5,f6,f7,f8⟩:=box9 hZ2;obtain ⟨fz0,fz1,fz2,fz3,fz4,fz5,fz6,fz7,fz8⟩:=wr9 hZ2;obtain ⟨g0,g1,g2,g3,g4,g5,g6,g7,g8⟩:=box9 hV8;obtain ⟨gz0,gz1,gz2,gz3,gz4,gz5,gz6,gz7,gz8⟩:=wr9 hV8;obtain ⟨r0,r1,r2,r3,r4,r5,r6,r7,r8⟩:=box9 hZ7;obtain ⟨q0,q1,q2,q3,q4,q5,q6,q7,q8⟩:=box9 hx7;clear hX1 hY1 hZ1 hB1 hX hY hZ hV hB0 hcur alt blt zlt vlt hW0;go_wp2_with fail
 try rw [e9]
 go_wp2_with fail
 try rw [e8]
 go_wp2_with fail
 try rw [e7]
 refine bodyPost_ret (v:=.tuple #[.agg #[.int .i64 0,.int .i64 0,.int .i64 0,.int .i64 0,.string ⟨#[]⟩,.slice none 0 0,.int .i64 0,.int .i64 0,.bool false],.agg #[.int .i64 0,.int .i64 0,.int .i64 0,.int .i64 0,.string ⟨#[]⟩,.slice none 0 0,.int .i64 0,.int .i64 0,.bool false],.int .i64 z1]) (by simp [results,Tryz.results82,go_sem,r0,r1,r2,r3,r4,r5,r6,r7,r8,q0,q1,q2,q3,q4,q5,q6,q7,q8]) rfl ⟨none,0,0,none,0,0,rfl,src_nil _ _ _ _,src_nil _ _ _ _,hB7⟩
theorem crossed_any {o o2:OpV} {a:Option Addr} {m cap:Nat} {b:Option Addr} {m2 cap2:Nat} {w:World} (hR:Sp.Rng w a m cap o.l) (hR2:Sp.Rng w b m2 cap2 o2.l) (hs1:o.s.size≤9223372036854775807) (hs2:o2.s.size≤9223372036854775807) (hw:Bar w) (r1:Right o) (r2:Right o2) :
  Calls Tryz.prog 82 #[opVal o (.slice a m cap),opVal o2 (.slice b m2 cap2)] w fun e w'=>∃ va vm vc ya ym yc,e=.returned (.tuple #[opVal (crossP o o2).1.1 (.slice va vm vc),opVal (crossP o o2).1.2 (.slice ya ym yc),.int .i64 (crossP o o2).2])∧Src (.slice a m cap) o.l w w' (.slice va vm vc) (crossP o o2).1.1.l∧Src (.slice b m2 cap2) o2.l w w' (.slice ya ym yc) (crossP o o2).1.2.l∧Below w.heap.size w w':=by
 unfold crossP;by_cases e1:(inclP o2 o true).2≠0
 ·rw [if_pos e1];exact crossed_bad hR2 hs1 hs2 hw r1 r2 e1
 ·rw [if_neg e1];exact crossed_run hR hR2 hs1 hs2 hw r1 r2 (Classical.not_not.1 e1)
end Go.Proofs.YtmeciikfnbbllaaGreatDoor
