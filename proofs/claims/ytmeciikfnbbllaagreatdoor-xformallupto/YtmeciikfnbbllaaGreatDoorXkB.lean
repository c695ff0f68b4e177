import Derived.Test.YtmeciikfnbbllaaGreatDoorAl
import Derived.Test.YtmeciikfnbbllaaGreatDoorGr49
import Derived.Test.YtmeciikfnbbllaaGreatDoorGr70
import Derived.Deep.RegionWith
set_option maxHeartbeats 16000000
set_option maxRecDepth 100000
namespace Go.Proofs.YtmeciikfnbbllaaGreatDoor
open Go.RowKit Go.Lib
theorem drop_at {α:Type} {L:List α} {i:Nat} {x:α} (h:L[i]?=some x):L.drop i=x::L.drop (i+1):=by
 obtain ⟨hi,rfl⟩:=List.getElem?_eq_some_iff.1 h;exact List.drop_eq_getElem_cons hi
theorem src_rdy {W w5:World} {x:OpM} {o1:OpV} {va:Option Addr} {vm vc g1 g2:Nat} (hb:Below W.heap.size W w5) (hx:Rdy W x∧Apt (some ⟨g1,0,none⟩) x∧Apt (some ⟨g2,0,none⟩) x) (hg1:g1<W.heap.size) (hg2:g2<W.heap.size)
  (hs:Src (.slice x.2.1 x.2.2.1 x.2.2.2) x.1.l W w5 (.slice va vm vc) o1.l) (q1:o1.l.length≤1000000000) (q2:o1.s.size≤281474976710656) :
  Rdy w5 (o1,(va,vm,vc))∧Apt (some ⟨g1,0,none⟩) ((o1,(va,vm,vc)):OpM)∧Apt (some ⟨g2,0,none⟩) ((o1,(va,vm,vc)):OpM):=by
 rcases hs with ⟨e,el⟩|ho
 ·cases e;exact ⟨⟨by rw [el];exact hx.1.rng.below hb,q1,q2⟩,hx.2.1,hx.2.2⟩
 ·refine ⟨⟨rng_of_rw (ho.rw_ layG),q1,q2⟩,own_apt (B:=W.heap.size) ho (fun ad e=>?_),own_apt (B:=W.heap.size) ho (fun ad e=>?_)⟩
  ·cases e;exact hg1
  ·cases e;exact hg2
structure OvR (fin:OpV×Int) (ear:Bool) (L:List OpV) (q:Nat) (oq:OpV) (er:Int):Prop where
 run:er=0→overR oq ear (L.drop q)=fin∧Right oq
 err:er≠0→fin=(op0,er)
theorem ovr_step {fin:OpV×Int} {ear:Bool} {L:List OpV} {q:Nat} {oq f:OpV} (h:OvR fin ear L q oq 0) (hf:L[q]?=some f) (hr:Right f):OvR fin ear L (q+1) (inclP oq f ear).1 (inclP oq f ear).2:=by
 obtain ⟨h1,h2⟩:=h.run rfl;rw [drop_at hf] at h1;unfold overR at h1;refine ⟨fun e=>?_,fun e=>?_⟩
 ·rw [if_neg (by simp [e])] at h1;exact ⟨h1,inclP_right h2 hr e⟩
 ·rw [if_pos e] at h1;exact h1.symm
theorem ovr_end {fin:OpV×Int} {ear:Bool} {L:List OpV} {oq:OpV} (h:OvR fin ear L L.length oq 0):fin=(oq,0):=by
 have:=(h.run rfl).1;rw [List.drop_of_length_le (lR _)] at this;exact this.symm
theorem opOk_rdy {w:World} {x:OpM} (h:OpOk w x):Rdy w x:=⟨h.1,by have:=h.1.len;have:=h.2.1;omega,by have:=h.2.2;omega⟩
theorem over_err1 {o:OpV} {ear:Bool} {a:Option Addr} {m cap:Nat} {b:Option Addr} {n capb:Nat} {L:List OpM} {w:World} (hR:Rdy w (o,(a,m,cap))) (hL:Rw opF 9 w b n capb L) (rL:∀ x∈L,Rdy w x) (hn:n≤1048576) (hw:Bar w) (he:ownP o≠0) :
  Calls Tryz.prog 14 #[opVal o (.slice a m cap),.bool ear,.slice b n capb] w fun e w'=>Ans w (op0,ownP o) e w':=by
 have ln:=hL.len;have HE1:Hid (∀ (W:World) (g:Nat),Below w.heap.size w W→W.heap[g]?=some (.cells (opF (o,(a,m,cap))).toArray 33)→Calls Tryz.prog 15 #[.slice (some ⟨g,0,none⟩) 1 1] W fun e w'=>e=.returned (.int .i64 (ownP o))∧Below W.heap.size W w'):=fun W g hb hg=>by
  have:=ownErrors_any (L:=[(o,(a,m,cap))]) (one_op hg) (fun x hx=>by
   simp at hx
   subst hx
   exact ⟨hR.rng.below hb,by have:=hR.size;simp only at this ⊢;omega⟩) (hw.below hb)
  rw [show errs [((o,(a,m,cap)):OpM)]=ownP o by show firstErr [o]=ownP o;rw [first1]] at this;exact this
 have HE2:Hid (∀ W,Below w.heap.size w W→Calls Tryz.prog 15 #[.slice b n capb] W fun e w'=>e=.returned (.int .i64 (errs L))∧Below W.heap.size W w'):=fun W hb=>ownErrors_any (hL.below hb) (fun x hx=>⟨(rL x hx).rng.below hb,by have:=(rL x hx).size;omega⟩) (hw.below hb)
 unfold Ans;simp only [op0];generalize ownP o=z at *;clear hR hL rL hw HE2 ln;simp only [opF] at HE1;simp only [opVal];obtain ⟨W0,hW0⟩:∃ W0,(w.alloc (Obj.cells #[.int .i64 o.c,.int .i64 o.n,.int .i64 o.k,.int .i64 o.p,.string o.s,.slice a m cap,.int .i64 o.tc,.int .i64 o.tn,.bool o.on] 33)).alloc (Obj.cells #[.int .i64 0,.int .i64 0,.int .i64 0,.int .i64 0,.string ⟨#[]⟩,.slice none 0 0,.int .i64 0,.int .i64 0,.bool false] 33)=W0:=⟨_,rfl⟩;have hX:W0.heap[w.heap.size]?=some (Obj.cells #[.int .i64 o.c,.int .i64 o.n,.int .i64 o.k,.int .i64 o.p,.string o.s,.slice a m cap,.int .i64 o.tc,.int .i64 o.tn,.bool o.on] 33):=by rw [← hW0];exact (Below.heap_alloc _ _ _ (by simp)).trans (alloc_last _ _ _ rfl)
 have hZ:W0.heap[w.heap.size+1]?=some (Obj.cells #[.int .i64 0,.int .i64 0,.int .i64 0,.int .i64 0,.string ⟨#[]⟩,.slice none 0 0,.int .i64 0,.int .i64 0,.bool false] 33):=by rw [← hW0];exact alloc_last _ _ _ (by simp)
 have hB0:Below w.heap.size w W0:=by rw [← hW0];exact ((bE w.heap.size w).alloc (lR _) _).alloc (by simp) _
 have alt:w.heap.size<W0.heap.size:=(gA hX);have zlt:w.heap.size+1<W0.heap.size:=(gA hZ);obtain ⟨ak0,ak1,ak2,ak3,ak4,ak5,ak6,ak7,ak8⟩:=box9 hX;obtain ⟨W1,hW1⟩:∃ W1,W0.alloc (Obj.cells #[.int .i64 o.c,.int .i64 o.n,.int .i64 o.k,.int .i64 o.p,.string o.s,.slice a m cap,.int .i64 o.tc,.int .i64 o.tn,.bool o.on] 33)=W1:=⟨_,rfl⟩;have hT:W1.heap[W0.heap.size]?=some (Obj.cells #[.int .i64 o.c,.int .i64 o.n,.int .i64 o.k,.int .i64 o.p,.string o.s,.slice a m cap,.int .i64 o.tc,.int .i64 o.tn,.bool o.on] 33):=by rw [← hW1];exact alloc_last _ _ _ rfl
 have h01:Below W0.heap.size W0 W1:=by rw [← hW1];exact (bE _ _).alloc (lR _) _
 go_enter Tryz.func14,Tryz.ntmps14;go_wp2_with fail;refine (HE1.out W1 _ (hB0.trans (h01.mono hB0.size)) hT).mono ?_;rintro e w1 ⟨rfl,hc1⟩;have hcur:Below W0.heap.size W0 w1:=h01.trans (hc1.mono h01.size);have hB1:=hB0.trans (hcur.mono hB0.size);have hX1:=(hcur.block _ alt).trans hX;have hZ1:=(hcur.block _ zlt).trans hZ;clear ak0 ak1 ak2 ak3 ak4 ak5 ak6 ak7 ak8 hX hZ hT h01 hc1 hW1 hW0 hcur hB0 alt zlt HE1;have t1:(z==0)=false:=nB he;have t2:(z != 0)=true:=by simp [bne,t1]
 have t3:decide (z=0)=false:=decide_eq_false he;have HZX:=hZ1;have HBX:=hB1;clear hX1 hZ1 hB1;go_wp2_with fail;go_loopw [8,9] (fun v8 v9 W=>v9=.int .i64 0∧v8=.int .i64 z∧W.heap[w.heap.size+1]?=some (Obj.cells #[.int .i64 0,.int .i64 0,.int .i64 0,.int .i64 0,.string ⟨#[]⟩,.slice none 0 0,.int .i64 0,.int .i64 0,.bool false] 33)∧Below w.heap.size w W) (fun _ _ _=>0)
 case atStart=>exact ⟨rfl,rfl,HZX,HBX⟩
 case round =>
  clear HZX HBX;obtain ⟨rfl,rfl,hZ,hB⟩:=hrel;by_cases hq:0<n
  ·have b1:(0:Int)<(n:Int):=by omega
   obtain ⟨W9,e9,hx9,hB9,hK9⟩:=store9 hZ hB (by omega) (.int .i64 0) (.int .i64 0) (.int .i64 0) (.int .i64 0) (.string ⟨#[]⟩) (.slice none 0 0) (.int .i64 0) (.int .i64 0) (.bool false);obtain ⟨zk0,zk1,zk2,zk3,zk4,zk5,zk6,zk7,zk8⟩:=box9 hZ;obtain ⟨zz0,zz1,zz2,zz3,zz4,zz5,zz6,zz7,zz8⟩:=wr9 hZ;obtain ⟨r0,r1,r2,r3,r4,r5,r6,r7,r8⟩:=box9 hx9;go_wp2_with fail
   try rw [e9]
   refine bodyPost_ret (v:=.tuple #[.agg #[.int .i64 0,.int .i64 0,.int .i64 0,.int .i64 0,.string ⟨#[]⟩,.slice none 0 0,.int .i64 0,.int .i64 0,.bool false],.int .i64 z]) (by simp [results,Tryz.results14,go_sem,r0,r1,r2,r3,r4,r5,r6,r7,r8]) rfl ⟨none,0,0,rfl,ownF_nil _ _,hB9⟩
  ·obtain rfl:n=0:=by omega
   obtain ⟨W9,e9,hx9,hB9,hK9⟩:=store9 hZ hB (by omega) (.int .i64 0) (.int .i64 0) (.int .i64 0) (.int .i64 0) (.string ⟨#[]⟩) (.slice none 0 0) (.int .i64 0) (.int .i64 0) (.bool false);obtain ⟨zk0,zk1,zk2,zk3,zk4,zk5,zk6,zk7,zk8⟩:=box9 hZ;obtain ⟨zz0,zz1,zz2,zz3,zz4,zz5,zz6,zz7,zz8⟩:=wr9 hZ;obtain ⟨r0,r1,r2,r3,r4,r5,r6,r7,r8⟩:=box9 hx9;go_wp2_with fail
   try rw [e9]
   refine bodyPost_ret (v:=.tuple #[.agg #[.int .i64 0,.int .i64 0,.int .i64 0,.int .i64 0,.string ⟨#[]⟩,.slice none 0 0,.int .i64 0,.int .i64 0,.bool false],.int .i64 z]) (by simp [results,Tryz.results14,go_sem,r0,r1,r2,r3,r4,r5,r6,r7,r8]) rfl ⟨none,0,0,rfl,ownF_nil _ _,hB9⟩
theorem over_err2 {o:OpV} {ear:Bool} {a:Option Addr} {m cap:Nat} {b:Option Addr} {n capb:Nat} {L:List OpM} {w:World} (hR:Rdy w (o,(a,m,cap))) (hL:Rw opF 9 w b n capb L) (rL:∀ x∈L,Rdy w x) (hn:n≤1048576) (hw:Bar w) (h0:ownP o=0) (he:errs L≠0) :
  Calls Tryz.prog 14 #[opVal o (.slice a m cap),.bool ear,.slice b n capb] w fun e w'=>Ans w (op0,errs L) e w':=by
 have ln:=hL.len;have HE1:Hid (∀ (W:World) (g:Nat),Below w.heap.size w W→W.heap[g]?=some (.cells (opF (o,(a,m,cap))).toArray 33)→Calls Tryz.prog 15 #[.slice (some ⟨g,0,none⟩) 1 1] W fun e w'=>e=.returned (.int .i64 (ownP o))∧Below W.heap.size W w'):=fun W g hb hg=>by
  have:=ownErrors_any (L:=[(o,(a,m,cap))]) (one_op hg) (fun x hx=>by
   simp at hx
   subst hx
   exact ⟨hR.rng.below hb,by have:=hR.size;simp only at this ⊢;omega⟩) (hw.below hb)
  rw [show errs [((o,(a,m,cap)):OpM)]=ownP o by show firstErr [o]=ownP o;rw [first1]] at this;exact this
 have HE2:Hid (∀ W,Below w.heap.size w W→Calls Tryz.prog 15 #[.slice b n capb] W fun e w'=>e=.returned (.int .i64 (errs L))∧Below W.heap.size W w'):=fun W hb=>ownErrors_any (hL.below hb) (fun x hx=>⟨(rL x hx).rng.below hb,by have:=(rL x hx).size;omega⟩) (hw.below hb)
 rw [h0] at HE1;unfold Ans;simp only [op0];generalize errs L=z at *;clear hR hL rL hw ln h0;simp only [opF] at HE1;simp only [opVal];obtain ⟨W0,hW0⟩:∃ W0,(w.alloc (Obj.cells #[.int .i64 o.c,.int .i64 o.n,.int .i64 o.k,.int .i64 o.p,.string o.s,.slice a m cap,.int .i64 o.tc,.int .i64 o.tn,.bool o.on] 33)).alloc (Obj.cells #[.int .i64 0,.int .i64 0,.int .i64 0,.int .i64 0,.string ⟨#[]⟩,.slice none 0 0,.int .i64 0,.int .i64 0,.bool false] 33)=W0:=⟨_,rfl⟩;have hX:W0.heap[w.heap.size]?=some (Obj.cells #[.int .i64 o.c,.int .i64 o.n,.int .i64 o.k,.int .i64 o.p,.string o.s,.slice a m cap,.int .i64 o.tc,.int .i64 o.tn,.bool o.on] 33):=by rw [← hW0];exact (Below.heap_alloc _ _ _ (by simp)).trans (alloc_last _ _ _ rfl)
 have hZ:W0.heap[w.heap.size+1]?=some (Obj.cells #[.int .i64 0,.int .i64 0,.int .i64 0,.int .i64 0,.string ⟨#[]⟩,.slice none 0 0,.int .i64 0,.int .i64 0,.bool false] 33):=by rw [← hW0];exact alloc_last _ _ _ (by simp)
 have hB0:Below w.heap.size w W0:=by rw [← hW0];exact ((bE w.heap.size w).alloc (lR _) _).alloc (by simp) _
 have alt:w.heap.size<W0.heap.size:=(gA hX);have zlt:w.heap.size+1<W0.heap.size:=(gA hZ);obtain ⟨ak0,ak1,ak2,ak3,ak4,ak5,ak6,ak7,ak8⟩:=box9 hX;obtain ⟨W1,hW1⟩:∃ W1,W0.alloc (Obj.cells #[.int .i64 o.c,.int .i64 o.n,.int .i64 o.k,.int .i64 o.p,.string o.s,.slice a m cap,.int .i64 o.tc,.int .i64 o.tn,.bool o.on] 33)=W1:=⟨_,rfl⟩;have hT:W1.heap[W0.heap.size]?=some (Obj.cells #[.int .i64 o.c,.int .i64 o.n,.int .i64 o.k,.int .i64 o.p,.string o.s,.slice a m cap,.int .i64 o.tc,.int .i64 o.tn,.bool o.on] 33):=by rw [← hW1];exact alloc_last _ _ _ rfl
 have h01:Below W0.heap.size W0 W1:=by rw [← hW1];exact (bE _ _).alloc (lR _) _
 go_enter Tryz.func14,Tryz.ntmps14;go_wp2_with fail;refine (HE1.out W1 _ (hB0.trans (h01.mono hB0.size)) hT).mono ?_;rintro e w1 ⟨rfl,hc1⟩;have hcur:Below W0.heap.size W0 w1:=h01.trans (hc1.mono h01.size);have hB1:=hB0.trans (hcur.mono hB0.size);have hX1:=(hcur.block _ alt).trans hX;have hZ1:=(hcur.block _ zlt).trans hZ;clear ak0 ak1 ak2 ak3 ak4 ak5 ak6 ak7 ak8 hX hZ hT h01 hc1 hW1 hW0 hcur hB0 alt zlt HE1;go_wp2_with fail;refine (HE2.out _ hB1).mono ?_;rintro e w2 ⟨rfl,hc2⟩;have HBX:=hB1.trans (hc2.mono hB1.size);have HZX:=(hc2.block _ (gA hZ1)).trans hZ1;clear hX1 hZ1 hB1 hc2 HE2;have t1:(z==0)=false:=nB he;have t2:(z != 0)=true:=by simp [bne,t1]
 have t3:decide (z=0)=false:=decide_eq_false he;go_wp2_with fail;go_loopw [8,9] (fun v8 v9 W=>v9=.int .i64 0∧v8=.int .i64 z∧W.heap[w.heap.size+1]?=some (Obj.cells #[.int .i64 0,.int .i64 0,.int .i64 0,.int .i64 0,.string ⟨#[]⟩,.slice none 0 0,.int .i64 0,.int .i64 0,.bool false] 33)∧Below w.heap.size w W) (fun _ _ _=>0)
 case atStart=>exact ⟨rfl,rfl,HZX,HBX⟩
 case round =>
  clear HZX HBX;obtain ⟨rfl,rfl,hZ,hB⟩:=hrel;by_cases hq:0<n
  ·have b1:(0:Int)<(n:Int):=by omega
   obtain ⟨W9,e9,hx9,hB9,hK9⟩:=store9 hZ hB (by omega) (.int .i64 0) (.int .i64 0) (.int .i64 0) (.int .i64 0) (.string ⟨#[]⟩) (.slice none 0 0) (.int .i64 0) (.int .i64 0) (.bool false);obtain ⟨zk0,zk1,zk2,zk3,zk4,zk5,zk6,zk7,zk8⟩:=box9 hZ;obtain ⟨zz0,zz1,zz2,zz3,zz4,zz5,zz6,zz7,zz8⟩:=wr9 hZ;obtain ⟨r0,r1,r2,r3,r4,r5,r6,r7,r8⟩:=box9 hx9;go_wp2_with fail
   try rw [e9]
   refine bodyPost_ret (v:=.tuple #[.agg #[.int .i64 0,.int .i64 0,.int .i64 0,.int .i64 0,.string ⟨#[]⟩,.slice none 0 0,.int .i64 0,.int .i64 0,.bool false],.int .i64 z]) (by simp [results,Tryz.results14,go_sem,r0,r1,r2,r3,r4,r5,r6,r7,r8]) rfl ⟨none,0,0,rfl,ownF_nil _ _,hB9⟩
  ·obtain rfl:n=0:=by omega
   obtain ⟨W9,e9,hx9,hB9,hK9⟩:=store9 hZ hB (by omega) (.int .i64 0) (.int .i64 0) (.int .i64 0) (.int .i64 0) (.string ⟨#[]⟩) (.slice none 0 0) (.int .i64 0) (.int .i64 0) (.bool false);obtain ⟨zk0,zk1,zk2,zk3,zk4,zk5,zk6,zk7,zk8⟩:=box9 hZ;obtain ⟨zz0,zz1,zz2,zz3,zz4,zz5,zz6,zz7,zz8⟩:=wr9 hZ;obtain ⟨r0,r1,r2,r3,r4,r5,r6,r7,r8⟩:=box9 hx9;go_wp2_with fail
   try rw [e9]
   refine bodyPost_ret (v:=.tuple #[.agg #[.int .i64 0,.int .i64 0,.int .i64 0,.int .i64 0,.string ⟨#[]⟩,.slice none 0 0,.int .i64 0,.int .i64 0,.bool false],.int .i64 z]) (by simp [results,Tryz.results14,go_sem,r0,r1,r2,r3,r4,r5,r6,r7,r8]) rfl ⟨none,0,0,rfl,ownF_nil _ _,hB9⟩
theorem over_run {o:OpV} {ear:Bool} {a:Option Addr} {m cap:Nat} {b:Option Addr} {n capb:Nat} {L:List OpM} {w:World} (hR:Rdy w (o,(a,m,cap))) (hL:Rw opF 9 w b n capb L) (rL:∀ x∈L,Rdy w x) (hn:n≤1048576) (hw:Bar w) (h0:ownP o=0) (he:errs L=0) :
  Calls Tryz.prog 14 #[opVal o (.slice a m cap),.bool ear,.slice b n capb] w fun e w'=>Ans w (overR o ear (L.map (·.1))) e w':=by
 have ln:=hL.len;have HE1:Hid (∀ (W:World) (g:Nat),Below w.heap.size w W→W.heap[g]?=some (.cells (opF (o,(a,m,cap))).toArray 33)→Calls Tryz.prog 15 #[.slice (some ⟨g,0,none⟩) 1 1] W fun e w'=>e=.returned (.int .i64 (ownP o))∧Below W.heap.size W w'):=fun W g hb hg=>by
  have:=ownErrors_any (L:=[(o,(a,m,cap))]) (one_op hg) (fun x hx=>by
   simp at hx
   subst hx
   exact ⟨hR.rng.below hb,by have:=hR.size;simp only at this ⊢;omega⟩) (hw.below hb)
  rw [show errs [((o,(a,m,cap)):OpM)]=ownP o by show firstErr [o]=ownP o;rw [first1]] at this;exact this
 have HE2:Hid (∀ W,Below w.heap.size w W→Calls Tryz.prog 15 #[.slice b n capb] W fun e w'=>e=.returned (.int .i64 (errs L))∧Below W.heap.size W w'):=fun W hb=>ownErrors_any (hL.below hb) (fun x hx=>⟨(rL x hx).rng.below hb,by have:=(rL x hx).size;omega⟩) (hw.below hb)
 rw [h0] at HE1;rw [he] at HE2;obtain ⟨fin,hfin⟩:∃ fin,overR o ear (L.map (·.1))=fin:=⟨_,rfl⟩;rw [hfin];have HL:Hid (Rw opF 9 w b n capb L):=hL;have HRL:Hid (∀ x∈L,Rdy w x):=rL;have HRI:Hid (∀ x∈L,Right x.1):=fun x hx=>firstErr_all (show firstErr (L.map (·.1))=0 from he) _ (List.mem_map_of_mem hx)
 have HRO:Hid (Rdy w (o,(a,m,cap))):=hR;have HBar:Hid (∀ W,Below w.heap.size w W→Bar W):=fun W hb=>hw.below hb
 have HOV:Hid (OvR fin ear (L.map (·.1)) 0 o 0):=⟨fun _=>⟨hfin,right_of h0⟩,fun e=>absurd rfl e⟩;clear hfin hR hL rL hw h0 he;unfold Ans;simp only [opF] at HE1;simp only [opVal];obtain ⟨W0,hW0⟩:∃ W0,(w.alloc (Obj.cells #[.int .i64 o.c,.int .i64 o.n,.int .i64 o.k,.int .i64 o.p,.string o.s,.slice a m cap,.int .i64 o.tc,.int .i64 o.tn,.bool o.on] 33)).alloc (Obj.cells #[.int .i64 0,.int .i64 0,.int .i64 0,.int .i64 0,.string ⟨#[]⟩,.slice none 0 0,.int .i64 0,.int .i64 0,.bool false] 33)=W0:=⟨_,rfl⟩;have hX:W0.heap[w.heap.size]?=some (Obj.cells #[.int .i64 o.c,.int .i64 o.n,.int .i64 o.k,.int .i64 o.p,.string o.s,.slice a m cap,.int .i64 o.tc,.int .i64 o.tn,.bool o.on] 33):=by rw [← hW0];exact (Below.heap_alloc _ _ _ (by simp)).trans (alloc_last _ _ _ rfl)
 have hZ:W0.heap[w.heap.size+1]?=some (Obj.cells #[.int .i64 0,.int .i64 0,.int .i64 0,.int .i64 0,.string ⟨#[]⟩,.slice none 0 0,.int .i64 0,.int .i64 0,.bool false] 33):=by rw [← hW0];exact alloc_last _ _ _ (by simp)
 have hB0:Below w.heap.size w W0:=by rw [← hW0];exact ((bE w.heap.size w).alloc (lR _) _).alloc (by simp) _
 have alt:w.heap.size<W0.heap.size:=(gA hX);have zlt:w.heap.size+1<W0.heap.size:=(gA hZ);obtain ⟨ak0,ak1,ak2,ak3,ak4,ak5,ak6,ak7,ak8⟩:=box9 hX;obtain ⟨W1,hW1⟩:∃ W1,W0.alloc (Obj.cells #[.int .i64 o.c,.int .i64 o.n,.int .i64 o.k,.int .i64 o.p,.string o.s,.slice a m cap,.int .i64 o.tc,.int .i64 o.tn,.bool o.on] 33)=W1:=⟨_,rfl⟩;have hT:W1.heap[W0.heap.size]?=some (Obj.cells #[.int .i64 o.c,.int .i64 o.n,.int .i64 o.k,.int .i64 o.p,.string o.s,.slice a m cap,.int .i64 o.tc,.int .i64 o.tn,.bool o.on] 33):=by rw [← hW1];exact alloc_last _ _ _ rfl
 have h01:Below W0.heap.size W0 W1:=by rw [← hW1];exact (bE _ _).alloc (lR _) _
 go_enter Tryz.func14,Tryz.ntmps14;go_wp2_with fail;refine (HE1.out W1 _ (hB0.trans (h01.mono hB0.size)) hT).mono ?_;rintro e w1 ⟨rfl,hc1⟩;have hcur:Below W0.heap.size W0 w1:=h01.trans (hc1.mono h01.size);have hB1:=hB0.trans (hcur.mono hB0.size);have hX1:=(hcur.block _ alt).trans hX;have hZ1:=(hcur.block _ zlt).trans hZ;clear ak0 ak1 ak2 ak3 ak4 ak5 ak6 ak7 ak8 hX hZ hT h01 hc1 hW1 hW0 hcur hB0 alt zlt HE1;go_wp2_with fail;refine (HE2.out _ hB1).mono ?_;rintro e w2 ⟨rfl,hc2⟩;have hB2:=hB1.trans (hc2.mono hB1.size);have hX2:=(hc2.block _ (gA hX1)).trans hX1;have hZ2:=(hc2.block _ (gA hZ1)).trans hZ1;have HM0:Hid (OvR fin ear (L.map (·.1)) 0 o 0∧Rdy w2 (o,(a,m,cap))∧Apt (some ⟨w.heap.size,0,none⟩) ((o,(a,m,cap)):OpM)):=⟨HOV.out,HRO.out.below hB2,rng_apt HRO.out.rng (fun ad e=>by cases e;exact lR _)⟩;clear hX1 hZ1 hB1 hc2 HE2 HOV HRO;go_wp2_with fail;go_loopw [8,9] (fun v8 v9 W=>∃ (q:Nat) (oq:OpV) (xa:Option Addr) (xm xc:Nat) (er:Int),v9=.int .i64 (q:Int)∧v8=.int .i64 er∧q≤n∧W.heap[w.heap.size]?=some (Obj.cells #[.int .i64 oq.c,.int .i64 oq.n,.int .i64 oq.k,.int .i64 oq.p,.string oq.s,.slice xa xm xc,.int .i64 oq.tc,.int .i64 oq.tn,.bool oq.on] 33)∧W.heap[w.heap.size+1]?=some (Obj.cells #[.int .i64 0,.int .i64 0,.int .i64 0,.int .i64 0,.string ⟨#[]⟩,.slice none 0 0,.int .i64 0,.int .i64 0,.bool false] 33)∧Below w.heap.size w W∧Hid (OvR fin ear (L.map (·.1)) q oq er∧(er=0→Rdy W (oq,(xa,xm,xc))∧Apt (some ⟨w.heap.size,0,none⟩) ((oq,(xa,xm,xc)):OpM)))) (fun _ v9 _=>n-(RowKit.intOf v9).toNat)
 case atStart=>exact ⟨0,o,a,m,cap,0,rfl,rfl,Nat.zero_le _,hX2,hZ2,hB2,⟨HM0.out.1,fun _=>HM0.out.2⟩⟩
 case round =>
  clear hX2 hZ2 hB2 HM0;obtain ⟨q,oq,xa,xm,xc,er,rfl,rfl,hqn,hX,hZ,hB,HM⟩:=hrel;by_cases hz:er=0
  ·subst hz;by_cases hq:q<n
   ·obtain ⟨g,off,x,rfl,hg,hx,c0,c1,c2,c3,c4,c5,c6,c7,c8⟩:=HL.out.at9 hB q hq;obtain ⟨hov,hrm⟩:=HM.out;obtain ⟨hrd,hap⟩:=hrm rfl;have hrx:=HRI.out x (List.mem_of_getElem? hx);have hro:=(hov.run rfl).2;have hov2:=ovr_step hov (f:=x.1) (by rw [List.getElem?_map,hx];rfl) hrx;have rx:=(HRL.out x (List.mem_of_getElem? hx)).below hB;have HI:Hid (∀ W,Below wr.heap.size wr W→Calls Tryz.prog 21 #[opVal oq (.slice xa xm xc),opVal x.1 (.slice x.2.1 x.2.2.1 x.2.2.2),.bool ear] W fun e w'=>∃ va vm vc,e=.returned (.tuple #[opVal (inclP oq x.1 ear).1 (.slice va vm vc),.int .i64 (inclP oq x.1 ear).2])∧Src (.slice xa xm xc) oq.l W w' (.slice va vm vc) (inclP oq x.1 ear).1.l∧Below W.heap.size W w'):=fun W hb=>included_any (ear:=ear) (b:=x.2.1) (m2:=x.2.2.1) (cap2:=x.2.2.2) (hrd.rng.below hb) (Nat.le_trans hrd.size (by decide)) (by have:=rx.size;omega) (HBar.out W (hB.trans (hb.mono hB.size))) hro hrx
    have alt:w.heap.size<wr.heap.size:=(gA hX);have HST:Hid (∀ (w5:World) (va:Option Addr) (vm vc:Nat),Below wr.heap.size wr w5→Src (.slice xa xm xc) oq.l wr w5 (.slice va vm vc) (inclP oq x.1 ear).1.l→Rdy w5 ((inclP oq x.1 ear).1,(va,vm,vc))∧Apt (some ⟨w.heap.size,0,none⟩) (((inclP oq x.1 ear).1,(va,vm,vc)):OpM)):=fun w5 va vm vc hb hs=>by
     have:=src_rdy (x:=(oq,(xa,xm,xc))) hb ⟨hrd,hap,hap⟩ alt alt hs (by have:=inclP_few ear (o2:=x.1) hro;omega) (Nat.le_trans (inclP_s oq x.1 ear) hrd.size);exact ⟨this.1,this.2.1⟩
    have HOV:Hid (OvR fin ear (L.map (·.1)) (q+1) (inclP oq x.1 ear).1 (inclP oq x.1 ear).2):=hov2;clear hov hrm hrd hap hro hrx hov2 rx hx;generalize (inclP oq x.1 ear).1=o5 at *;generalize (inclP oq x.1 ear).2=z5 at *;obtain ⟨ak0,ak1,ak2,ak3,ak4,ak5,ak6,ak7,ak8⟩:=box9 hX;obtain ⟨⟨xc_,xn,xk,xp,xs,xl,xtc,xtn,xon⟩,ya_,ym_,ycap⟩:=x;simp only [opVal] at *;have b1:(q:Int)<(n:Int):=by omega
    have b0:(0:Int)≤(q:Int):=by omega
    go_wp2_with fail;go_region_with (go_at_call 21;refine (HI.out _ ?_).mono ?_;(first|exact bE _ _|exact (bE _ _).drew);rintro e5 w5 ⟨va,vm,vc,rfl,hs1,hb5⟩;(have hb6:Below wr.heap.size wr w5:=(by first|exact hb5|exact (bE _ _).drew.trans hb5));(have hrd5:=HST.out w5 va vm vc hb6 hs1);(have hX5:=(hb6.block _ alt).trans hX);(have hZ5:=(hb6.block _ (gA hZ)).trans hZ);(have hB5:=hB.trans (hb6.mono hB.size));obtain ⟨W9,e9,hx9,hB9,hK9⟩:=store9 hX5 hB5 (lR _) (.int .i64 o5.c) (.int .i64 o5.n) (.int .i64 o5.k) (.int .i64 o5.p) (.string o5.s) (.slice va vm vc) (.int .i64 o5.tc) (.int .i64 o5.tn) (.bool o5.on);obtain ⟨d0,d1,d2,d3,d4,d5,d6,d7,d8⟩:=box9 hX5;obtain ⟨dz0,dz1,dz2,dz3,dz4,dz5,dz6,dz7,dz8⟩:=wr9 hX5)
    all_goals
     have hZ9:=hK9.block hZ5 (by omega);have HM9:Hid (OvR fin ear (L.map (·.1)) (q+1) o5 z5∧(z5=0→Rdy W9 (o5,(va,vm,vc))∧Apt (some ⟨w.heap.size,0,none⟩) ((o5,(va,vm,vc)):OpM))):=⟨HOV.out,fun _=>⟨hrd5.1.alt (Alt.of_but ⟨hB9.os.trans hB5.os.symm,hB9.tape.trans hB5.tape.symm,hB9.output.trans hB5.output.symm,Nat.le_of_eq hK9.1.symm,fun k hk=>absurd hk (Nat.not_lt_zero _)⟩ hK9) hrd5.2,hrd5.2⟩⟩;clear hrd5 hX5 hZ5 ak0 ak1 ak2 ak3 ak4 ak5 ak6 ak7 ak8 c0 c1 c2 c3 c4 c5 c6 c7 c8 HI HST HOV;go_wp2_with fail
     try rw [e9]
     go_roundw
     case rel=>exact ⟨q+1,o5,va,vm,vc,z5,by go_num,rfl,by omega,hx9,hZ9,hB9,HM9⟩
     case measure=>simp [RowKit.intOf];omega
   ·have hqn2:n=q:=by omega
    subst hqn2;obtain ⟨hov,hrm⟩:=HM.out;obtain ⟨hrd,hap⟩:=hrm rfl;have hval:fin=(oq,0):=ovr_end (by rw [List.length_map,ln];exact hov);have HCl:Hid (Calls Tryz.prog 22 #[opVal oq (.slice xa xm xc)] wr fun e w'=>∃ a' cap',e=.returned (opVal oq (.slice a' xm cap'))∧OwnF rangeV 2 94 w' wr.heap.size (.slice a' xm cap') oq.l∧Below wr.heap.size wr w'):=(opClone_any hrd.rng (by have h1:=hrd.rng.len;have h2:=hrd.few;simp only at h1 h2 ⊢;omega) hrd.size).mono fun e2 w5 ⟨a',cap',he,ho5,hb5⟩=>⟨a',cap',he,ho5.mono (by omega),hb5⟩
    subst hval;have b1:decide ((n:Int)<(n:Int))=false:=decide_eq_false (by omega);obtain ⟨ak0,ak1,ak2,ak3,ak4,ak5,ak6,ak7,ak8⟩:=box9 hX;have zlt:w.heap.size+1<wr.heap.size:=(gA hZ);clear hov hrm hrd hap HM;simp only [opVal] at *;go_wp2_with fail;refine HCl.out.mono ?_;rintro e w5 ⟨ya,yc,rfl,hoy,hb5⟩;have hB5:=hB.trans (hb5.mono hB.size);have hZ5:=(hb5.block _ zlt).trans hZ;clear HCl ak0 ak1 ak2 ak3 ak4 ak5 ak6 ak7 ak8 hX;obtain ⟨W9,e9,hx9,hB9,hK9⟩:=store9 hZ5 hB5 (by omega) (.int .i64 oq.c) (.int .i64 oq.n) (.int .i64 oq.k) (.int .i64 oq.p) (.string oq.s) (.slice ya xm yc) (.int .i64 oq.tc) (.int .i64 oq.tn) (.bool oq.on);obtain ⟨d0,d1,d2,d3,d4,d5,d6,d7,d8⟩:=box9 hZ5;obtain ⟨dz0,dz1,dz2,dz3,dz4,dz5,dz6,dz7,dz8⟩:=wr9 hZ5;obtain ⟨r0,r1,r2,r3,r4,r5,r6,r7,r8⟩:=box9 hx9;go_wp2_with fail
    try rw [e9]
    refine bodyPost_ret (v:=.tuple #[.agg #[.int .i64 oq.c,.int .i64 oq.n,.int .i64 oq.k,.int .i64 oq.p,.string oq.s,.slice ya xm yc,.int .i64 oq.tc,.int .i64 oq.tn,.bool oq.on],.int .i64 0]) (by simp [results,Tryz.results14,go_sem,r0,r1,r2,r3,r4,r5,r6,r7,r8]) rfl ⟨ya,xm,yc,rfl,(hK9.own hoy zlt).mono (by have:=hB.size;omega),hB9⟩
  ·obtain rfl:=HM.out.1.err hz;have t1:(er==0)=false:=nB hz;have t2:(er != 0)=true:=by simp [bne,t1]
   have t3:decide (er=0)=false:=decide_eq_false hz;clear HM HL HRL HRI;simp only [op0] at *;by_cases hq:q<n
   ·have b1:(q:Int)<(n:Int):=by omega
    obtain ⟨W9,e9,hx9,hB9,hK9⟩:=store9 hZ hB (by omega) (.int .i64 0) (.int .i64 0) (.int .i64 0) (.int .i64 0) (.string ⟨#[]⟩) (.slice none 0 0) (.int .i64 0) (.int .i64 0) (.bool false);obtain ⟨zk0,zk1,zk2,zk3,zk4,zk5,zk6,zk7,zk8⟩:=box9 hZ;obtain ⟨zz0,zz1,zz2,zz3,zz4,zz5,zz6,zz7,zz8⟩:=wr9 hZ;obtain ⟨r0,r1,r2,r3,r4,r5,r6,r7,r8⟩:=box9 hx9;go_wp2_with fail
    try rw [e9]
    refine bodyPost_ret (v:=.tuple #[.agg #[.int .i64 0,.int .i64 0,.int .i64 0,.int .i64 0,.string ⟨#[]⟩,.slice none 0 0,.int .i64 0,.int .i64 0,.bool false],.int .i64 er]) (by simp [results,Tryz.results14,go_sem,r0,r1,r2,r3,r4,r5,r6,r7,r8]) rfl ⟨none,0,0,rfl,ownF_nil _ _,hB9⟩
   ·obtain rfl:n=q:=by omega
    have b1:decide ((n:Int)<(n:Int))=false:=decide_eq_false (by omega);obtain ⟨W9,e9,hx9,hB9,hK9⟩:=store9 hZ hB (by omega) (.int .i64 0) (.int .i64 0) (.int .i64 0) (.int .i64 0) (.string ⟨#[]⟩) (.slice none 0 0) (.int .i64 0) (.int .i64 0) (.bool false);obtain ⟨zk0,zk1,zk2,zk3,zk4,zk5,zk6,zk7,zk8⟩:=box9 hZ;obtain ⟨zz0,zz1,zz2,zz3,zz4,zz5,zz6,zz7,zz8⟩:=wr9 hZ;obtain ⟨r0,r1,r2,r3,r4,r5,r6,r7,r8⟩:=box9 hx9;go_wp2_with fail
    try rw [e9]
    refine bodyPost_ret (v:=.tuple #[.agg #[.int .i64 0,.int .i64 0,.int .i64 0,.int .i64 0,.string ⟨#[]⟩,.slice none 0 0,.int .i64 0,.int .i64 0,.bool false],.int .i64 er]) (by simp [results,Tryz.results14,go_sem,r0,r1,r2,r3,r4,r5,r6,r7,r8]) rfl ⟨none,0,0,rfl,ownF_nil _ _,hB9⟩
theorem Over_any {o:OpV} {ear:Bool} {a:Option Addr} {m cap:Nat} {b:Option Addr} {n capb:Nat} {L:List OpM} {w:World} (hR:Rdy w (o,(a,m,cap))) (hL:Rw opF 9 w b n capb L) (rL:∀ x∈L,Rdy w x) (hn:n≤1048576) (hw:Bar w) :
  Calls Tryz.prog 14 #[opVal o (.slice a m cap),.bool ear,.slice b n capb] w fun e w'=>Ans w (xOver o ear (L.map (·.1))) e w':=by
 unfold xOver;by_cases h1:ownP o≠0
 ·rw [if_pos h1];exact over_err1 hR hL rL hn hw h1
 ·rw [if_neg h1];have h1:ownP o=0:=Classical.not_not.1 h1;by_cases h2:firstErr (L.map (·.1))≠0
  ·rw [if_pos h2];exact over_err2 hR hL rL hn hw h1 h2
  ·rw [if_neg h2];exact over_run hR hL rL hn hw h1 (Classical.not_not.1 h2)
end Go.Proofs.YtmeciikfnbbllaaGreatDoor
