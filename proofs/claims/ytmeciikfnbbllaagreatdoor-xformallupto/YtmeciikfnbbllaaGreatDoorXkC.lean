import Derived.Test.YtmeciikfnbbllaaGreatDoorAl
import Derived.Test.YtmeciikfnbbllaaGreatDoorXkB
import Derived.Test.YtmeciikfnbbllaaGreatDoorXhJ
set_option maxHeartbeats 16000000
set_option maxRecDepth 100000
namespace Go.Proofs.YtmeciikfnbbllaaGreatDoor
open Go.RowKit Go.Lib
def El (W:World) (g at_:Nat) (x:OpM):Prop:=g<W.heap.size∧(W.cell? ⟨g,at_,none⟩=some (.int .i64 x.1.c)∧W.cell? ⟨g,at_+1,none⟩=some (.int .i64 x.1.n)∧W.cell? ⟨g,at_+2,none⟩=some (.int .i64 x.1.k)∧W.cell? ⟨g,at_+3,none⟩=some (.int .i64 x.1.p)∧W.cell? ⟨g,at_+4,none⟩=some (.string x.1.s)∧W.cell? ⟨g,at_+5,none⟩=some (.slice x.2.1 x.2.2.1 x.2.2.2)∧W.cell? ⟨g,at_+6,none⟩=some (.int .i64 x.1.tc)∧W.cell? ⟨g,at_+7,none⟩=some (.int .i64 x.1.tn)∧W.cell? ⟨g,at_+8,none⟩=some (.bool x.1.on))
theorem El.nine {W:World} {g at_:Nat} {x:OpM} (h:El W g at_ x):W.cell? ⟨g,at_,none⟩=some (.int .i64 x.1.c)∧W.cell? ⟨g,at_+1,none⟩=some (.int .i64 x.1.n)∧W.cell? ⟨g,at_+2,none⟩=some (.int .i64 x.1.k)∧W.cell? ⟨g,at_+3,none⟩=some (.int .i64 x.1.p)∧W.cell? ⟨g,at_+4,none⟩=some (.string x.1.s)∧W.cell? ⟨g,at_+5,none⟩=some (.slice x.2.1 x.2.2.1 x.2.2.2)∧W.cell? ⟨g,at_+6,none⟩=some (.int .i64 x.1.tc)∧W.cell? ⟨g,at_+7,none⟩=some (.int .i64 x.1.tn)∧W.cell? ⟨g,at_+8,none⟩=some (.bool x.1.on):=h.2
theorem El.below {W W':World} {g at_:Nat} {x:OpM} (h:El W g at_ x) (hb:Below W.heap.size W W'):El W' g at_ x :=
 ⟨Nat.lt_of_lt_of_le h.1 hb.size,(hb.cell (p:=⟨g,at_,none⟩) h.1).trans h.2.1,(hb.cell (p:=⟨g,at_+1,none⟩) h.1).trans h.2.2.1,(hb.cell (p:=⟨g,at_+2,none⟩) h.1).trans h.2.2.2.1,(hb.cell (p:=⟨g,at_+3,none⟩) h.1).trans h.2.2.2.2.1,(hb.cell (p:=⟨g,at_+4,none⟩) h.1).trans h.2.2.2.2.2.1,(hb.cell (p:=⟨g,at_+5,none⟩) h.1).trans h.2.2.2.2.2.2.1,(hb.cell (p:=⟨g,at_+6,none⟩) h.1).trans h.2.2.2.2.2.2.2.1,(hb.cell (p:=⟨g,at_+7,none⟩) h.1).trans h.2.2.2.2.2.2.2.2.1,(hb.cell (p:=⟨g,at_+8,none⟩) h.1).trans h.2.2.2.2.2.2.2.2.2⟩
theorem El.but {W W':World} {g at_ b:Nat} {x:OpM} (h:El W g at_ x) (hK:But b W W') (hb:b≠g):El W' g at_ x:=by
 refine ⟨by rw [hK.1];exact h.1,?_⟩;have:=h.2;unfold World.cell? at this ⊢;simp only at this ⊢;rw [hK.2 g (fun e=>hb e.symm)];exact this
theorem el_of {w W:World} {g at_:Nat} {x:OpM} (hs:w.heap.size≤W.heap.size) (hg:g<w.heap.size) (c0:W.cell? ⟨g,at_,none⟩=some (.int .i64 x.1.c)) (c1:W.cell? ⟨g,at_+1,none⟩=some (.int .i64 x.1.n)) (c2:W.cell? ⟨g,at_+2,none⟩=some (.int .i64 x.1.k)) (c3:W.cell? ⟨g,at_+3,none⟩=some (.int .i64 x.1.p)) (c4:W.cell? ⟨g,at_+4,none⟩=some (.string x.1.s)) (c5:W.cell? ⟨g,at_+5,none⟩=some (.slice x.2.1 x.2.2.1 x.2.2.2)) (c6:W.cell? ⟨g,at_+6,none⟩=some (.int .i64 x.1.tc)) (c7:W.cell? ⟨g,at_+7,none⟩=some (.int .i64 x.1.tn)) (c8:W.cell? ⟨g,at_+8,none⟩=some (.bool x.1.on)):El W g at_ x:=⟨Nat.lt_of_lt_of_le hg hs,c0,c1,c2,c3,c4,c5,c6,c7,c8⟩
theorem gover_err1 {o:OpV} {ear:Bool} {a:Option Addr} {m cap:Nat} {b:Option Addr} {n capb:Nat} {L:List OpM} {w:World} (hR:OpOk w (o,(a,m,cap))) (hL:Rw opF 9 w b n capb L) (rL:∀ x∈L,OpOk w x) (he:ownP o≠0) :
  Calls Tryz.prog 55 #[opVal o (.slice a m cap),.bool ear,.slice b n capb] w fun e w'=>Ans w (op0,ownP o) e w':=by
 have ln:=hL.len;have hnb:n≤9223372036854775807:=by have:=hL.room;simp only [maxLen] at this;omega
 have HE1:Hid (∀ (W:World) (g:Nat),Below w.heap.size w W→W.heap[g]?=some (.cells (opF (o,(a,m,cap))).toArray 33)→Calls Tryz.prog 49 #[.slice (some ⟨g,0,none⟩) 1 1] W fun e w'=>e=.returned (.int .i64 (ownP o))∧Below W.heap.size W w'):=fun W g hb hg=>by
  have:=gown_any (L:=[(o,(a,m,cap))]) (one_op hg) (fun x hx=>by
   simp at hx
   subst hx
   exact hR.below hb)
  rw [show errs [((o,(a,m,cap)):OpM)]=ownP o by show firstErr [o]=ownP o;rw [first1]] at this;exact this
 have HE2:Hid (∀ W,Below w.heap.size w W→Calls Tryz.prog 49 #[.slice b n capb] W fun e w'=>e=.returned (.int .i64 (errs L))∧Below W.heap.size W w'):=fun W hb=>gown_any (hL.below hb) (fun x hx=>(rL x hx).below hb)
 unfold Ans;simp only [op0];generalize ownP o=z at *;clear hR hL rL HE2 ln hnb;simp only [opF] at HE1;simp only [opVal];obtain ⟨W0,hW0⟩:∃ W0,(w.alloc (Obj.cells #[.int .i64 o.c,.int .i64 o.n,.int .i64 o.k,.int .i64 o.p,.string o.s,.slice a m cap,.int .i64 o.tc,.int .i64 o.tn,.bool o.on] 33)).alloc (Obj.cells #[.int .i64 0,.int .i64 0,.int .i64 0,.int .i64 0,.string ⟨#[]⟩,.slice none 0 0,.int .i64 0,.int .i64 0,.bool false] 33)=W0:=⟨_,rfl⟩;have hX:W0.heap[w.heap.size]?=some (Obj.cells #[.int .i64 o.c,.int .i64 o.n,.int .i64 o.k,.int .i64 o.p,.string o.s,.slice a m cap,.int .i64 o.tc,.int .i64 o.tn,.bool o.on] 33):=by rw [← hW0];exact (Below.heap_alloc _ _ _ (by simp)).trans (alloc_last _ _ _ rfl)
 have hZ:W0.heap[w.heap.size+1]?=some (Obj.cells #[.int .i64 0,.int .i64 0,.int .i64 0,.int .i64 0,.string ⟨#[]⟩,.slice none 0 0,.int .i64 0,.int .i64 0,.bool false] 33):=by rw [← hW0];exact alloc_last _ _ _ (by simp)
 have hB0:Below w.heap.size w W0:=by rw [← hW0];exact ((bE w.heap.size w).alloc (lR _) _).alloc (by simp) _
 have alt:w.heap.size<W0.heap.size:=(gA hX);have zlt:w.heap.size+1<W0.heap.size:=(gA hZ);obtain ⟨ak0,ak1,ak2,ak3,ak4,ak5,ak6,ak7,ak8⟩:=box9 hX;obtain ⟨W1,hW1⟩:∃ W1,W0.alloc (Obj.cells #[.int .i64 o.c,.int .i64 o.n,.int .i64 o.k,.int .i64 o.p,.string o.s,.slice a m cap,.int .i64 o.tc,.int .i64 o.tn,.bool o.on] 33)=W1:=⟨_,rfl⟩;have hT:W1.heap[W0.heap.size]?=some (Obj.cells #[.int .i64 o.c,.int .i64 o.n,.int .i64 o.k,.int .i64 o.p,.string o.s,.slice a m cap,.int .i64 o.tc,.int .i64 o.tn,.bool o.on] 33):=by rw [← hW1];exact alloc_last _ _ _ rfl
 have h01:Below W0.heap.size W0 W1:=by rw [← hW1];exact (bE _ _).alloc (lR _) _
 go_enter Tryz.func55,Tryz.ntmps55;go_wp2_with fail;refine (HE1.out W1 _ (hB0.trans (h01.mono hB0.size)) hT).mono ?_;rintro e w1 ⟨rfl,hc1⟩;have hcur:Below W0.heap.size W0 w1:=h01.trans (hc1.mono h01.size);have hB1:=hB0.trans (hcur.mono hB0.size);have hX1:=(hcur.block _ alt).trans hX;have hZ1:=(hcur.block _ zlt).trans hZ;clear ak0 ak1 ak2 ak3 ak4 ak5 ak6 ak7 ak8 hX hZ hT h01 hc1 hW1 hW0 hcur hB0 alt zlt HE1;have t1:(z==0)=false:=nB he;have t2:(z != 0)=true:=by simp [bne,t1]
 have t3:decide (z=0)=false:=decide_eq_false he;clear hX1;obtain ⟨W9,e9,hx9,hB9,hK9⟩:=store9 hZ1 hB1 (by omega) (.int .i64 0) (.int .i64 0) (.int .i64 0) (.int .i64 0) (.string ⟨#[]⟩) (.slice none 0 0) (.int .i64 0) (.int .i64 0) (.bool false);obtain ⟨zk0,zk1,zk2,zk3,zk4,zk5,zk6,zk7,zk8⟩:=box9 hZ1;obtain ⟨zz0,zz1,zz2,zz3,zz4,zz5,zz6,zz7,zz8⟩:=wr9 hZ1;obtain ⟨r0,r1,r2,r3,r4,r5,r6,r7,r8⟩:=box9 hx9;go_wp2_with fail
 try rw [e9]
 refine bodyPost_ret (v:=.tuple #[.agg #[.int .i64 0,.int .i64 0,.int .i64 0,.int .i64 0,.string ⟨#[]⟩,.slice none 0 0,.int .i64 0,.int .i64 0,.bool false],.int .i64 z]) (by simp [results,Tryz.results55,go_sem,r0,r1,r2,r3,r4,r5,r6,r7,r8]) rfl ⟨none,0,0,rfl,ownF_nil _ _,hB9⟩
theorem gover_err2 {o:OpV} {ear:Bool} {a:Option Addr} {m cap:Nat} {b:Option Addr} {n capb:Nat} {L:List OpM} {w:World} (hR:OpOk w (o,(a,m,cap))) (hL:Rw opF 9 w b n capb L) (rL:∀ x∈L,OpOk w x) (h0:ownP o=0) (he:errs L≠0) :
  Calls Tryz.prog 55 #[opVal o (.slice a m cap),.bool ear,.slice b n capb] w fun e w'=>Ans w (op0,errs L) e w':=by
 have ln:=hL.len;have hnb:n≤9223372036854775807:=by have:=hL.room;simp only [maxLen] at this;omega
 have HE1:Hid (∀ (W:World) (g:Nat),Below w.heap.size w W→W.heap[g]?=some (.cells (opF (o,(a,m,cap))).toArray 33)→Calls Tryz.prog 49 #[.slice (some ⟨g,0,none⟩) 1 1] W fun e w'=>e=.returned (.int .i64 (ownP o))∧Below W.heap.size W w'):=fun W g hb hg=>by
  have:=gown_any (L:=[(o,(a,m,cap))]) (one_op hg) (fun x hx=>by
   simp at hx
   subst hx
   exact hR.below hb)
  rw [show errs [((o,(a,m,cap)):OpM)]=ownP o by show firstErr [o]=ownP o;rw [first1]] at this;exact this
 have HE2:Hid (∀ W,Below w.heap.size w W→Calls Tryz.prog 49 #[.slice b n capb] W fun e w'=>e=.returned (.int .i64 (errs L))∧Below W.heap.size W w'):=fun W hb=>gown_any (hL.below hb) (fun x hx=>(rL x hx).below hb)
 rw [h0] at HE1;unfold Ans;simp only [op0];generalize errs L=z at *;clear hR hL rL ln hnb h0;simp only [opF] at HE1;simp only [opVal];obtain ⟨W0,hW0⟩:∃ W0,(w.alloc (Obj.cells #[.int .i64 o.c,.int .i64 o.n,.int .i64 o.k,.int .i64 o.p,.string o.s,.slice a m cap,.int .i64 o.tc,.int .i64 o.tn,.bool o.on] 33)).alloc (Obj.cells #[.int .i64 0,.int .i64 0,.int .i64 0,.int .i64 0,.string ⟨#[]⟩,.slice none 0 0,.int .i64 0,.int .i64 0,.bool false] 33)=W0:=⟨_,rfl⟩;have hX:W0.heap[w.heap.size]?=some (Obj.cells #[.int .i64 o.c,.int .i64 o.n,.int .i64 o.k,.int .i64 o.p,.string o.s,.slice a m cap,.int .i64 o.tc,.int .i64 o.tn,.bool o.on] 33):=by rw [← hW0];exact (Below.heap_alloc _ _ _ (by simp)).trans (alloc_last _ _ _ rfl)
 have hZ:W0.heap[w.heap.size+1]?=some (Obj.cells #[.int .i64 0,.int .i64 0,.int .i64 0,.int .i64 0,.string ⟨#[]⟩,.slice none 0 0,.int .i64 0,.int .i64 0,.bool false] 33):=by rw [← hW0];exact alloc_last _ _ _ (by simp)
 have hB0:Below w.heap.size w W0:=by rw [← hW0];exact ((bE w.heap.size w).alloc (lR _) _).alloc (by simp) _
 have alt:w.heap.size<W0.heap.size:=(gA hX);have zlt:w.heap.size+1<W0.heap.size:=(gA hZ);obtain ⟨ak0,ak1,ak2,ak3,ak4,ak5,ak6,ak7,ak8⟩:=box9 hX;obtain ⟨W1,hW1⟩:∃ W1,W0.alloc (Obj.cells #[.int .i64 o.c,.int .i64 o.n,.int .i64 o.k,.int .i64 o.p,.string o.s,.slice a m cap,.int .i64 o.tc,.int .i64 o.tn,.bool o.on] 33)=W1:=⟨_,rfl⟩;have hT:W1.heap[W0.heap.size]?=some (Obj.cells #[.int .i64 o.c,.int .i64 o.n,.int .i64 o.k,.int .i64 o.p,.string o.s,.slice a m cap,.int .i64 o.tc,.int .i64 o.tn,.bool o.on] 33):=by rw [← hW1];exact alloc_last _ _ _ rfl
 have h01:Below W0.heap.size W0 W1:=by rw [← hW1];exact (bE _ _).alloc (lR _) _
 go_enter Tryz.func55,Tryz.ntmps55;go_wp2_with fail;refine (HE1.out W1 _ (hB0.trans (h01.mono hB0.size)) hT).mono ?_;rintro e w1 ⟨rfl,hc1⟩;have hcur:Below W0.heap.size W0 w1:=h01.trans (hc1.mono h01.size);have hB1:=hB0.trans (hcur.mono hB0.size);have hX1:=(hcur.block _ alt).trans hX;have hZ1:=(hcur.block _ zlt).trans hZ;clear ak0 ak1 ak2 ak3 ak4 ak5 ak6 ak7 ak8 hX hZ hT h01 hc1 hW1 hW0 hcur hB0 alt zlt HE1;go_wp2_with fail;refine (HE2.out _ hB1).mono ?_;rintro e w2 ⟨rfl,hc2⟩;have hB2:=hB1.trans (hc2.mono hB1.size);have hZ2:=(hc2.block _ (gA hZ1)).trans hZ1;clear hX1 hZ1 hB1 hc2 HE2;have t1:(z==0)=false:=nB he;have t2:(z != 0)=true:=by simp [bne,t1]
 have t3:decide (z=0)=false:=decide_eq_false he;obtain ⟨W9,e9,hx9,hB9,hK9⟩:=store9 hZ2 hB2 (by omega) (.int .i64 0) (.int .i64 0) (.int .i64 0) (.int .i64 0) (.string ⟨#[]⟩) (.slice none 0 0) (.int .i64 0) (.int .i64 0) (.bool false);obtain ⟨zk0,zk1,zk2,zk3,zk4,zk5,zk6,zk7,zk8⟩:=box9 hZ2;obtain ⟨zz0,zz1,zz2,zz3,zz4,zz5,zz6,zz7,zz8⟩:=wr9 hZ2;obtain ⟨r0,r1,r2,r3,r4,r5,r6,r7,r8⟩:=box9 hx9;go_wp2_with fail
 try rw [e9]
 refine bodyPost_ret (v:=.tuple #[.agg #[.int .i64 0,.int .i64 0,.int .i64 0,.int .i64 0,.string ⟨#[]⟩,.slice none 0 0,.int .i64 0,.int .i64 0,.bool false],.int .i64 z]) (by simp [results,Tryz.results55,go_sem,r0,r1,r2,r3,r4,r5,r6,r7,r8]) rfl ⟨none,0,0,rfl,ownF_nil _ _,hB9⟩
theorem gover_run {o:OpV} {ear:Bool} {a:Option Addr} {m cap:Nat} {b:Option Addr} {n capb:Nat} {L:List OpM} {w:World} (hR:OpOk w (o,(a,m,cap))) (hL:Rw opF 9 w b n capb L) (rL:∀ x∈L,OpOk w x) (h0:ownP o=0) (he:errs L=0) :
  Calls Tryz.prog 55 #[opVal o (.slice a m cap),.bool ear,.slice b n capb] w fun e w'=>Ans w (overR o ear (L.map (·.1))) e w':=by
 have ln:=hL.len;have hnb:n≤9223372036854775807:=by have:=hL.room;simp only [maxLen] at this;omega
 have HE1:Hid (∀ (W:World) (g:Nat),Below w.heap.size w W→W.heap[g]?=some (.cells (opF (o,(a,m,cap))).toArray 33)→Calls Tryz.prog 49 #[.slice (some ⟨g,0,none⟩) 1 1] W fun e w'=>e=.returned (.int .i64 (ownP o))∧Below W.heap.size W w'):=fun W g hb hg=>by
  have:=gown_any (L:=[(o,(a,m,cap))]) (one_op hg) (fun x hx=>by
   simp at hx
   subst hx
   exact hR.below hb)
  rw [show errs [((o,(a,m,cap)):OpM)]=ownP o by show firstErr [o]=ownP o;rw [first1]] at this;exact this
 have HE2:Hid (∀ W,Below w.heap.size w W→Calls Tryz.prog 49 #[.slice b n capb] W fun e w'=>e=.returned (.int .i64 (errs L))∧Below W.heap.size W w'):=fun W hb=>gown_any (hL.below hb) (fun x hx=>(rL x hx).below hb)
 rw [h0] at HE1;rw [he] at HE2;obtain ⟨fin,hfin⟩:∃ fin,overR o ear (L.map (·.1))=fin:=⟨_,rfl⟩;rw [hfin];have HL:Hid (Rw opF 9 w b n capb L):=hL;have HRL:Hid (∀ x∈L,OpOk w x):=rL;have HRI:Hid (∀ x∈L,Right x.1):=fun x hx=>firstErr_all (show firstErr (L.map (·.1))=0 from he) _ (List.mem_map_of_mem hx)
 have HCP:Hid (∀ W,Below w.heap.size w W→Calls Tryz.prog 26 #[opVal o (.slice a m cap)] W fun e w'=>∃ a' cap',e=.returned (opVal o (.slice a' m cap'))∧OwnF rangeV 2 94 w' W.heap.size (.slice a' m cap') o.l∧Below W.heap.size W w'):=fun W hb=>copy_any (hR.1.below hb) (by have:=hR.2.1;simp only at this;omega)
 have HOV:Hid (OvR fin ear (L.map (·.1)) 0 o 0∧o.s.size≤2097152):=⟨⟨fun _=>⟨hfin,right_of h0⟩,fun e=>absurd rfl e⟩,hR.2.2⟩;clear hfin hR hL rL h0 he;simp only [opVal] at HCP;unfold Ans;simp only [opF] at HE1;simp only [opVal];obtain ⟨W0,hW0⟩:∃ W0,(w.alloc (Obj.cells #[.int .i64 o.c,.int .i64 o.n,.int .i64 o.k,.int .i64 o.p,.string o.s,.slice a m cap,.int .i64 o.tc,.int .i64 o.tn,.bool o.on] 33)).alloc (Obj.cells #[.int .i64 0,.int .i64 0,.int .i64 0,.int .i64 0,.string ⟨#[]⟩,.slice none 0 0,.int .i64 0,.int .i64 0,.bool false] 33)=W0:=⟨_,rfl⟩;have hX:W0.heap[w.heap.size]?=some (Obj.cells #[.int .i64 o.c,.int .i64 o.n,.int .i64 o.k,.int .i64 o.p,.string o.s,.slice a m cap,.int .i64 o.tc,.int .i64 o.tn,.bool o.on] 33):=by rw [← hW0];exact (Below.heap_alloc _ _ _ (by simp)).trans (alloc_last _ _ _ rfl)
 have hZ:W0.heap[w.heap.size+1]?=some (Obj.cells #[.int .i64 0,.int .i64 0,.int .i64 0,.int .i64 0,.string ⟨#[]⟩,.slice none 0 0,.int .i64 0,.int .i64 0,.bool false] 33):=by rw [← hW0];exact alloc_last _ _ _ (by simp)
 have hB0:Below w.heap.size w W0:=by rw [← hW0];exact ((bE w.heap.size w).alloc (lR _) _).alloc (by simp) _
 have alt:w.heap.size<W0.heap.size:=(gA hX);have zlt:w.heap.size+1<W0.heap.size:=(gA hZ);obtain ⟨ak0,ak1,ak2,ak3,ak4,ak5,ak6,ak7,ak8⟩:=box9 hX;obtain ⟨W1,hW1⟩:∃ W1,W0.alloc (Obj.cells #[.int .i64 o.c,.int .i64 o.n,.int .i64 o.k,.int .i64 o.p,.string o.s,.slice a m cap,.int .i64 o.tc,.int .i64 o.tn,.bool o.on] 33)=W1:=⟨_,rfl⟩;have hT:W1.heap[W0.heap.size]?=some (Obj.cells #[.int .i64 o.c,.int .i64 o.n,.int .i64 o.k,.int .i64 o.p,.string o.s,.slice a m cap,.int .i64 o.tc,.int .i64 o.tn,.bool o.on] 33):=by rw [← hW1];exact alloc_last _ _ _ rfl
 have h01:Below W0.heap.size W0 W1:=by rw [← hW1];exact (bE _ _).alloc (lR _) _
 go_enter Tryz.func55,Tryz.ntmps55;go_wp2_with fail;refine (HE1.out W1 _ (hB0.trans (h01.mono hB0.size)) hT).mono ?_;rintro e w1 ⟨rfl,hc1⟩;have hcur:Below W0.heap.size W0 w1:=h01.trans (hc1.mono h01.size);have hB1:=hB0.trans (hcur.mono hB0.size);have hX1:=(hcur.block _ alt).trans hX;have hZ1:=(hcur.block _ zlt).trans hZ;clear ak0 ak1 ak2 ak3 ak4 ak5 ak6 ak7 ak8 hX hZ hT h01 hc1 hW1 hW0 hcur hB0 alt zlt HE1;go_wp2_with fail;refine (HE2.out _ hB1).mono ?_;rintro e w2 ⟨rfl,hc2⟩;have hB2:=hB1.trans (hc2.mono hB1.size);have hX2:=(hc2.block _ (gA hX1)).trans hX1;have hZ2:=(hc2.block _ (gA hZ1)).trans hZ1;clear hX1 hZ1 hB1 hc2 HE2;obtain ⟨ak0,ak1,ak2,ak3,ak4,ak5,ak6,ak7,ak8⟩:=box9 hX2;go_wp2_with fail;refine (HCP.out _ hB2).mono ?_;rintro e w3 ⟨xa,xc,rfl,ho3,hc3⟩;have hB3:=hB2.trans (hc3.mono hB2.size);have hX3:=(hc3.block _ (gA hX2)).trans hX2;have hZ3:=(hc3.block _ (gA hZ2)).trans hZ2;have hlt3:w.heap.size<w2.heap.size:=(gA hX2);clear HCP hX2 hZ2 hc3 ak0 ak1 ak2 ak3 ak4 ak5 ak6 ak7 ak8;obtain ⟨w4,e4,hX4,hB4,hK4⟩:=store9 hX3 hB3 (lR _) (.int .i64 o.c) (.int .i64 o.n) (.int .i64 o.k) (.int .i64 o.p) (.string o.s) (.slice xa m xc) (.int .i64 o.tc) (.int .i64 o.tn) (.bool o.on);have hZ4:=hK4.block hZ3 (by omega);have HO4:Hid (OvR fin ear (L.map (·.1)) 0 o 0∧o.s.size≤2097152∧OwnF rangeV 2 94 w4 w.heap.size (.slice xa m xc) o.l):=⟨HOV.out.1,HOV.out.2,(hK4.own ho3 hlt3).mono (Nat.le_of_lt hlt3)⟩;obtain ⟨ak0,ak1,ak2,ak3,ak4,ak5,ak6,ak7,ak8⟩:=box9 hX3;obtain ⟨az0,az1,az2,az3,az4,az5,az6,az7,az8⟩:=wr9 hX3;clear hX3 hZ3 ho3 hK4 HOV hlt3 hB2 hB3;go_wp2_with fail
 try rw [e4]
 go_loopw [9] (fun v9 W=>∃ (q:Nat) (oq:OpV) (xa:Option Addr) (xm xc:Nat),v9=.int .i64 (q:Int)∧q≤n∧W.heap[w.heap.size]?=some (Obj.cells #[.int .i64 oq.c,.int .i64 oq.n,.int .i64 oq.k,.int .i64 oq.p,.string oq.s,.slice xa xm xc,.int .i64 oq.tc,.int .i64 oq.tn,.bool oq.on] 33)∧W.heap[w.heap.size+1]?=some (Obj.cells #[.int .i64 0,.int .i64 0,.int .i64 0,.int .i64 0,.string ⟨#[]⟩,.slice none 0 0,.int .i64 0,.int .i64 0,.bool false] 33)∧Below w.heap.size w W∧Hid (OvR fin ear (L.map (·.1)) q oq 0∧oq.s.size≤2097152∧OwnF rangeV 2 94 W w.heap.size (.slice xa xm xc) oq.l)) (fun v9 _=>n-(RowKit.intOf v9).toNat)
 case atStart=>exact ⟨0,o,xa,m,xc,rfl,Nat.zero_le _,hX4,hZ4,hB4,HO4⟩
 case round =>
  clear hX4 hZ4 hB4 HO4 e4 ak0 ak1 ak2 ak3 ak4 ak5 ak6 ak7 ak8 az0 az1 az2 az3 az4 az5 az6 az7 az8;obtain ⟨q,oq,xa,xm,xc,rfl,hqn,hX,hZ,hB,HM⟩:=hrel;by_cases hq:q<n
  ·obtain ⟨g,off,x,rfl,hg,hx,c0,c1,c2,c3,c4,c5,c6,c7,c8⟩:=HL.out.at9 hB q hq;obtain ⟨hov,hsz,ho⟩:=HM.out;have hrx:=HRI.out x (List.mem_of_getElem? hx);have hro:=(hov.run rfl).2;have hov2:=ovr_step hov (f:=x.1) (by rw [List.getElem?_map,hx];rfl) hrx;have rx:=HRL.out x (List.mem_of_getElem? hx);have HI:Hid (∀ W,Below w.heap.size w W→OwnF rangeV 2 94 W w.heap.size (.slice xa xm xc) oq.l→Calls Tryz.prog 50 #[opVal oq (.slice xa xm xc),opVal x.1 (.slice x.2.1 x.2.2.1 x.2.2.2),.bool ear] W fun e w'=>∃ va vm vc,e=.returned (.tuple #[opVal (inclP oq x.1 ear).1 (.slice va vm vc),.int .i64 (inclP oq x.1 ear).2])∧OwnF rangeV 2 94 w' W.heap.size (.slice va vm vc) (inclP oq x.1 ear).1.l∧Below W.heap.size W w'):=fun W hb hoW=>include_any (ear:=ear) (b:=x.2.1) (m2:=x.2.2.1) (cap2:=x.2.2.2) (rng_of_rw (hoW.rw_ layG)) (by have h1:=(hoW.rw_ layG).len;have h2:=hro.few;omega) hsz rx.2.2 hro hrx
   have alt:w.heap.size+1<wr.heap.size:=(gA hZ);have HOV:Hid (OvR fin ear (L.map (·.1)) (q+1) (inclP oq x.1 ear).1 (inclP oq x.1 ear).2∧(inclP oq x.1 ear).1.s.size≤2097152):=⟨hov2,Nat.le_trans (inclP_s oq x.1 ear) hsz⟩;have hE:El wr g (off+q*9) x:=el_of (hB.size) hg c0 c1 c2 c3 c4 c5 c6 c7 c8;clear hov hsz hro hrx hov2 rx hx;generalize (inclP oq x.1 ear).1=o5 at *;generalize (inclP oq x.1 ear).2=z5 at *;obtain ⟨ak0,ak1,ak2,ak3,ak4,ak5,ak6,ak7,ak8⟩:=box9 hX;obtain ⟨⟨xc_,xn,xk,xp,xs,xl,xtc,xtn,xon⟩,ya_,ym_,ycap⟩:=x;simp only [opVal] at *;have b1:(q:Int)<(n:Int):=by omega
   have b0:(0:Int)≤(q:Int):=by omega
   go_upto_region 10 with fail
   refine wp_region_held_drew (S:=(fun W=>W.cell? ⟨w.heap.size,0,none⟩=some (.int .i64 oq.c)∧W.cell? ⟨w.heap.size,1,none⟩=some (.int .i64 oq.n)∧W.cell? ⟨w.heap.size,2,none⟩=some (.int .i64 oq.k)∧W.cell? ⟨w.heap.size,3,none⟩=some (.int .i64 oq.p)∧W.cell? ⟨w.heap.size,4,none⟩=some (.string oq.s)∧W.cell? ⟨w.heap.size,5,none⟩=some (.slice xa xm xc)∧W.cell? ⟨w.heap.size,6,none⟩=some (.int .i64 oq.tc)∧W.cell? ⟨w.heap.size,7,none⟩=some (.int .i64 oq.tn)∧W.cell? ⟨w.heap.size,8,none⟩=some (.bool oq.on)∧W.cell? ⟨g,off+q*9,none⟩=some (.int .i64 xc_)∧W.cell? ⟨g,off+q*9+1,none⟩=some (.int .i64 xn)∧W.cell? ⟨g,off+q*9+2,none⟩=some (.int .i64 xk)∧W.cell? ⟨g,off+q*9+3,none⟩=some (.int .i64 xp)∧W.cell? ⟨g,off+q*9+4,none⟩=some (.string xs)∧W.cell? ⟨g,off+q*9+5,none⟩=some (.slice ya_ ym_ ycap)∧W.cell? ⟨g,off+q*9+6,none⟩=some (.int .i64 xtc)∧W.cell? ⟨g,off+q*9+7,none⟩=some (.int .i64 xtn)∧W.cell? ⟨g,off+q*9+8,none⟩=some (.bool xon))) (by kernel_rfl) ?hS1 (fun hHeld=>?rest1)
   case hS1=>(exact ⟨ak0,ak1,ak2,ak3,ak4,ak5,ak6,ak7,ak8,c0,c1,c2,c3,c4,c5,c6,c7,c8⟩)
   obtain ⟨u0,hu0⟩:∃ V,World.drew wr=V:=⟨_,rfl⟩;rw [hu0] at hHeld;rw [hu0];have hb:Below wr.heap.size wr u0:=by rw [← hu0];exact (bE _ _).drew
   clear hu0;have hX0:=(hb.block _ (gA hX)).trans hX;have hZ0:=(hb.block _ (gA hZ)).trans hZ;have hB0:=hB.trans (hb.mono hB.size);have hE0:=hE.below hb;have ho0:=ho.below hb;have alt0:=Nat.lt_of_lt_of_le alt hb.size;clear hb;refine tD 0 (some 32) ?_
   try simp only [putS]
   refine tD 1 (some 33) ?_
   try simp only [putS]
   refine tD 2 (some 34) ?_
   try simp only [putS]
   refine tD 3 (some 35) ?_
   try simp only [putS]
   refine tD 4 (some 36) ?_
   try simp only [putS]
   refine tD 5 (some 37) ?_
   try simp only [putS]
   refine wpAnyH_ready (rs:=[6,10]) (by kernel_rfl) (by simp) ?_;refine AllReadyH.cons rfl (fun K hK=>?b8_0) (AllReadyH.cons rfl (fun K hK=>?b8_1) (AllReadyH.nil))
   case' b8_0 =>
    go_simp;refine (HI.out _ hB0 ho0).mono ?_;rintro e2 u1 ⟨va,vm,vc,rfl,ho5,hb⟩;have hX1:=(hb.block _ (gA hX0)).trans hX0;have hZ1:=(hb.block _ (gA hZ0)).trans hZ0;have hB1:=hB0.trans (hb.mono hB0.size);have hE1:=hE0.below hb;have ho1:=ho0.below hb;have alt1:=Nat.lt_of_lt_of_le alt0 hb.size;clear hb;clear hHeld;refine hK.out _ _ ?hS12 (fun hHeld=>?rest12)
    case' hS12=>(obtain ⟨ak0,ak1,ak2,ak3,ak4,ak5,ak6,ak7,ak8⟩:=box9 hX1;obtain ⟨c0,c1,c2,c3,c4,c5,c6,c7,c8⟩:=hE1.nine;exact ⟨ak0,ak1,ak2,ak3,ak4,ak5,ak6,ak7,ak8,c0,c1,c2,c3,c4,c5,c6,c7,c8⟩)
    clear hK K
    try simp only [putS]
    refine tD 7 (some 31) ?_
    try simp only [putS]
    refine tD 8 (some 39) ?_
    try simp only [putS]
    refine tD 9 (some 40) ?_
    try simp only [putS]
    refine wpAnyH_ready (rs:=[10]) (by kernel_rfl) (by simp) ?_;refine AllReadyH.cons rfl (fun K hK=>?_) AllReadyH.nil;go_simp;obtain ⟨u2,hv⟩:∃ V,u1.alloc (Obj.cells #[.int .i64 0,.int .i64 0,.int .i64 0,.int .i64 0,.string ⟨#[]⟩,.slice none 0 0,.int .i64 0,.int .i64 0,.bool false] 33)=V:=⟨_,rfl⟩;have hb:Below u1.heap.size u1 u2:=by rw [← hv];exact (bE _ _).alloc (lR _) _
    have hX2:=(hb.block _ (gA hX1)).trans hX1;have hZ2:=(hb.block _ (gA hZ1)).trans hZ1;have hB2:=hB1.trans (hb.mono hB1.size);have hE2:=hE1.below hb;have ho2:=ho1.below hb;have alt2:=Nat.lt_of_lt_of_le alt1 hb.size;have ho5:=ho5.below hb;have hbx:u2.heap[u1.heap.size]?=some (Obj.cells #[.int .i64 0,.int .i64 0,.int .i64 0,.int .i64 0,.string ⟨#[]⟩,.slice none 0 0,.int .i64 0,.int .i64 0,.bool false] 33):=by rw [← hv];exact heap_alloc_new _ _
    have hbxlo:=alt1;rw [hv];generalize u1.heap.size=hbxx at *;clear hb hv;clear hHeld;refine hK.out _ _ ?hS13 (fun hHeld=>?rest13)
    case' hS13=>(obtain ⟨ak0,ak1,ak2,ak3,ak4,ak5,ak6,ak7,ak8⟩:=box9 hX2;obtain ⟨c0,c1,c2,c3,c4,c5,c6,c7,c8⟩:=hE2.nine;exact ⟨ak0,ak1,ak2,ak3,ak4,ak5,ak6,ak7,ak8,c0,c1,c2,c3,c4,c5,c6,c7,c8⟩)
    clear hK K
    try simp only [putS]
    obtain ⟨u9,e9,hx9,hB9,hK9⟩:=store9 hbx hB2 (by omega) (.int .i64 o5.c) (.int .i64 o5.n) (.int .i64 o5.k) (.int .i64 o5.p) (.string o5.s) (.slice va vm vc) (.int .i64 o5.tc) (.int .i64 o5.tn) (.bool o5.on);obtain ⟨d0,d1,d2,d3,d4,d5,d6,d7,d8⟩:=box9 hbx;obtain ⟨dz0,dz1,dz2,dz3,dz4,dz5,dz6,dz7,dz8⟩:=wr9 hbx;have hX9:=hK9.block hX2 (by omega);have hZ9:=hK9.block hZ2 (by omega);have ho9:=own_type ho5 hbx (by decide) hK9;have hE9:=hE2.but hK9 (by omega);refine wpAnyH_ready (rs:=[11]) (by kernel_rfl) (by simp) ?_;refine AllReadyH.cons rfl (fun K hK=>?_) AllReadyH.nil;go_simp
    try rw [e9]
    clear hHeld;refine hK.out _ _ ?hS14 (fun hHeld=>?rest14)
    case' hS14=>(obtain ⟨ak0,ak1,ak2,ak3,ak4,ak5,ak6,ak7,ak8⟩:=box9 hX9;obtain ⟨c0,c1,c2,c3,c4,c5,c6,c7,c8⟩:=hE9.nine;exact ⟨ak0,ak1,ak2,ak3,ak4,ak5,ak6,ak7,ak8,c0,c1,c2,c3,c4,c5,c6,c7,c8⟩)
    clear hK K
    try simp only [putS]
    refine tD 12 (some 11) ?_
    try simp only [putS]
    refine wpAnyH_done (by kernel_rfl) ?_ _
   case' b8_1 =>
    go_simp;obtain ⟨u1,hv⟩:∃ V,u0.alloc (Obj.cells #[.int .i64 0,.int .i64 0,.int .i64 0,.int .i64 0,.string ⟨#[]⟩,.slice none 0 0,.int .i64 0,.int .i64 0,.bool false] 33)=V:=⟨_,rfl⟩;have hb:Below u0.heap.size u0 u1:=by rw [← hv];exact (bE _ _).alloc (lR _) _
    have hX1:=(hb.block _ (gA hX0)).trans hX0;have hZ1:=(hb.block _ (gA hZ0)).trans hZ0;have hB1:=hB0.trans (hb.mono hB0.size);have hE1:=hE0.below hb;have ho1:=ho0.below hb;have alt1:=Nat.lt_of_lt_of_le alt0 hb.size;have hbx:u1.heap[u0.heap.size]?=some (Obj.cells #[.int .i64 0,.int .i64 0,.int .i64 0,.int .i64 0,.string ⟨#[]⟩,.slice none 0 0,.int .i64 0,.int .i64 0,.bool false] 33):=by rw [← hv];exact heap_alloc_new _ _
    have hbxlo:=alt0;rw [hv];generalize u0.heap.size=hbxx at *;clear hb hv;clear hHeld;refine hK.out _ _ ?hS16 (fun hHeld=>?rest16)
    case' hS16=>(obtain ⟨ak0,ak1,ak2,ak3,ak4,ak5,ak6,ak7,ak8⟩:=box9 hX1;obtain ⟨c0,c1,c2,c3,c4,c5,c6,c7,c8⟩:=hE1.nine;exact ⟨ak0,ak1,ak2,ak3,ak4,ak5,ak6,ak7,ak8,c0,c1,c2,c3,c4,c5,c6,c7,c8⟩)
    clear hK K
    try simp only [putS]
    refine wpAnyH_ready (rs:=[6]) (by kernel_rfl) (by simp) ?_;refine AllReadyH.cons rfl (fun K hK=>?_) AllReadyH.nil;go_simp;refine (HI.out _ hB1 ho1).mono ?_;rintro e2 u2 ⟨va,vm,vc,rfl,ho5,hb⟩;have hX2:=(hb.block _ (gA hX1)).trans hX1;have hZ2:=(hb.block _ (gA hZ1)).trans hZ1;have hB2:=hB1.trans (hb.mono hB1.size);have hE2:=hE1.below hb;have ho2:=ho1.below hb;have alt2:=Nat.lt_of_lt_of_le alt1 hb.size;have hbx:=(hb.block _ (gA hbx)).trans hbx;clear hb;clear hHeld;refine hK.out _ _ ?hS20 (fun hHeld=>?rest20)
    case' hS20=>(obtain ⟨ak0,ak1,ak2,ak3,ak4,ak5,ak6,ak7,ak8⟩:=box9 hX2;obtain ⟨c0,c1,c2,c3,c4,c5,c6,c7,c8⟩:=hE2.nine;exact ⟨ak0,ak1,ak2,ak3,ak4,ak5,ak6,ak7,ak8,c0,c1,c2,c3,c4,c5,c6,c7,c8⟩)
    clear hK K
    try simp only [putS]
    refine tD 7 (some 31) ?_
    try simp only [putS]
    refine tD 8 (some 39) ?_
    try simp only [putS]
    refine tD 9 (some 40) ?_
    try simp only [putS]
    obtain ⟨u9,e9,hx9,hB9,hK9⟩:=store9 hbx hB2 (by omega) (.int .i64 o5.c) (.int .i64 o5.n) (.int .i64 o5.k) (.int .i64 o5.p) (.string o5.s) (.slice va vm vc) (.int .i64 o5.tc) (.int .i64 o5.tn) (.bool o5.on);obtain ⟨d0,d1,d2,d3,d4,d5,d6,d7,d8⟩:=box9 hbx;obtain ⟨dz0,dz1,dz2,dz3,dz4,dz5,dz6,dz7,dz8⟩:=wr9 hbx;have hX9:=hK9.block hX2 (by omega);have hZ9:=hK9.block hZ2 (by omega);have ho9:=own_type ho5 hbx (by decide) hK9;have hE9:=hE2.but hK9 (by omega);refine wpAnyH_ready (rs:=[11]) (by kernel_rfl) (by simp) ?_;refine AllReadyH.cons rfl (fun K hK=>?_) AllReadyH.nil;go_simp
    try rw [e9]
    clear hHeld;refine hK.out _ _ ?hS21 (fun hHeld=>?rest21)
    case' hS21=>(obtain ⟨ak0,ak1,ak2,ak3,ak4,ak5,ak6,ak7,ak8⟩:=box9 hX9;obtain ⟨c0,c1,c2,c3,c4,c5,c6,c7,c8⟩:=hE9.nine;exact ⟨ak0,ak1,ak2,ak3,ak4,ak5,ak6,ak7,ak8,c0,c1,c2,c3,c4,c5,c6,c7,c8⟩)
    clear hK K
    try simp only [putS]
    refine tD 12 (some 11) ?_
    try simp only [putS]
    refine wpAnyH_done (by kernel_rfl) ?_ _
   all_goals
    clear hHeld HI hX hZ hB ho hE alt ak0 ak1 ak2 ak3 ak4 ak5 ak6 ak7 ak8 c0 c1 c2 c3 c4 c5 c6 c7 c8 d0 dz0 d1 dz1 d2 dz2 d3 dz3 d4 dz4 d5 dz5 d6 dz6 d7 dz7 d8 dz8;by_cases hz:z5=0
    ·subst hz;have HM9:Hid (OvR fin ear (L.map (·.1)) (q+1) o5 0∧o5.s.size≤2097152∧OwnF rangeV 2 94 u9 w.heap.size (.slice va vm vc) o5.l):=⟨HOV.out.1,HOV.out.2,ho9.mono (by first|exact hB0.size|(have:=hB0.size;have:=hB1.size;omega))⟩;clear ho9 HOV ho5 e9;obtain ⟨r0,r1,r2,r3,r4,r5,r6,r7,r8⟩:=box9 hx9;obtain ⟨W8,e8,hX8,hB8,hK8⟩:=store9 hX9 hB9 (lR _) (.int .i64 o5.c) (.int .i64 o5.n) (.int .i64 o5.k) (.int .i64 o5.p) (.string o5.s) (.slice va vm vc) (.int .i64 o5.tc) (.int .i64 o5.tn) (.bool o5.on);have HM8:Hid (OvR fin ear (L.map (·.1)) (q+1) o5 0∧o5.s.size≤2097152∧OwnF rangeV 2 94 W8 w.heap.size (.slice va vm vc) o5.l):=⟨HM9.out.1,HM9.out.2.1,own_type HM9.out.2.2 hX9 (by decide) hK8⟩;have hZ8:=hK8.block hZ9 (by omega);obtain ⟨ak0,ak1,ak2,ak3,ak4,ak5,ak6,ak7,ak8⟩:=box9 hX9;obtain ⟨az0,az1,az2,az3,az4,az5,az6,az7,az8⟩:=wr9 hX9;clear hK8 HM9 hX9 hZ9 hx9;go_wp2_with fail
     try rw [e8]
     go_roundw
     case rel=>exact ⟨q+1,o5,va,vm,vc,by go_num,by omega,hX8,hZ8,hB8,HM8⟩
     case measure=>simp [RowKit.intOf];omega
    ·obtain rfl:=HOV.out.1.err hz;have t1:(z5==0)=false:=nB hz;have t2:(z5 != 0)=true:=by simp [bne,t1]
     have t3:decide (z5=0)=false:=decide_eq_false hz;simp only [op0] at *;clear hx9 hX9 HOV ho9 ho5 HL HRL HRI;obtain ⟨W9,e9,hx9,hB9,hK9⟩:=store9 hZ9 hB9 (by omega) (.int .i64 0) (.int .i64 0) (.int .i64 0) (.int .i64 0) (.string ⟨#[]⟩) (.slice none 0 0) (.int .i64 0) (.int .i64 0) (.bool false);obtain ⟨zk0,zk1,zk2,zk3,zk4,zk5,zk6,zk7,zk8⟩:=box9 hZ9;obtain ⟨zz0,zz1,zz2,zz3,zz4,zz5,zz6,zz7,zz8⟩:=wr9 hZ9;obtain ⟨r0,r1,r2,r3,r4,r5,r6,r7,r8⟩:=box9 hx9;go_wp2_with fail
     try rw [e9]
     refine bodyPost_ret (v:=.tuple #[.agg #[.int .i64 0,.int .i64 0,.int .i64 0,.int .i64 0,.string ⟨#[]⟩,.slice none 0 0,.int .i64 0,.int .i64 0,.bool false],.int .i64 z5]) (by simp [results,Tryz.results55,go_sem,r0,r1,r2,r3,r4,r5,r6,r7,r8]) rfl ⟨none,0,0,rfl,ownF_nil _ _,hB9⟩
  ·obtain rfl:n=q:=by omega
   obtain ⟨hov,hsz,ho⟩:=HM.out;have hval:fin=(oq,0):=ovr_end (by rw [List.length_map,ln];exact hov);subst hval;have b1:decide ((n:Int)<(n:Int))=false:=decide_eq_false (by omega);have HO:Hid (OwnF rangeV 2 94 wr w.heap.size (.slice xa xm xc) oq.l):=ho;clear HM hov hsz ho HL HRL HRI;obtain ⟨ak0,ak1,ak2,ak3,ak4,ak5,ak6,ak7,ak8⟩:=box9 hX;obtain ⟨W9,e9,hx9,hB9,hK9⟩:=store9 hZ hB (by omega) (.int .i64 oq.c) (.int .i64 oq.n) (.int .i64 oq.k) (.int .i64 oq.p) (.string oq.s) (.slice xa xm xc) (.int .i64 oq.tc) (.int .i64 oq.tn) (.bool oq.on);have HO9:Hid (OwnF rangeV 2 94 W9 w.heap.size (.slice xa xm xc) oq.l):=own_type HO.out hZ (by decide) hK9;obtain ⟨zk0,zk1,zk2,zk3,zk4,zk5,zk6,zk7,zk8⟩:=box9 hZ;obtain ⟨zz0,zz1,zz2,zz3,zz4,zz5,zz6,zz7,zz8⟩:=wr9 hZ;obtain ⟨r0,r1,r2,r3,r4,r5,r6,r7,r8⟩:=box9 hx9;clear HO hK9;go_wp2_with fail
   try rw [e9]
   refine bodyPost_ret (v:=.tuple #[.agg #[.int .i64 oq.c,.int .i64 oq.n,.int .i64 oq.k,.int .i64 oq.p,.string oq.s,.slice xa xm xc,.int .i64 oq.tc,.int .i64 oq.tn,.bool oq.on],.int .i64 0]) (by simp [results,Tryz.results55,go_sem,r0,r1,r2,r3,r4,r5,r6,r7,r8]) rfl ⟨xa,xm,xc,rfl,HO9.out,hB9⟩
theorem gOver_any {o:OpV} {ear:Bool} {a:Option Addr} {m cap:Nat} {b:Option Addr} {n capb:Nat} {L:List OpM} {w:World} (hR:OpOk w (o,(a,m,cap))) (hL:Rw opF 9 w b n capb L) (rL:∀ x∈L,OpOk w x) :
  Calls Tryz.prog 55 #[opVal o (.slice a m cap),.bool ear,.slice b n capb] w fun e w'=>Ans w (xOver o ear (L.map (·.1))) e w':=by
 unfold xOver;by_cases h1:ownP o≠0
 ·rw [if_pos h1];exact gover_err1 hR hL rL h1
 ·rw [if_neg h1];have h1:ownP o=0:=Classical.not_not.1 h1;by_cases h2:firstErr (L.map (·.1))≠0
  ·rw [if_pos h2];exact gover_err2 hR hL rL h1 h2
  ·rw [if_neg h2];exact gover_run hR hL rL h1 (Classical.not_not.1 h2)
end Go.Proofs.YtmeciikfnbbllaaGreatDoor
