import Derived.Test.YtijpfbcippijoaaGreatDoorAl
import Derived.Test.YtijpfbcippijoaaGreatDoorGr143
import Derived.Lib.AppendZerosOnto
set_option maxHeartbeats 4000000
set_option maxRecDepth 100000
namespace Go.Proofs.YtijpfbcippijoaaGreatDoor
open Go.RowKit Go.Lib
def Tr.Can (t:Tr):Prop:=t=.nil∨t.Fine
theorem Tr.Can.ok {t:Tr} (h:t.Can):t.Ok:=h.imp id Tr.Fine.wf
theorem Tr.Can.bd {t:Tr} (h:t.Can):t.Bd:=by
 rcases h with rfl|h
 ·trivial
 ·exact h.bd
theorem Tr.Can.smBd {t:Tr} (h:t.Can) (hn:t.row.length≤2097152):SmBd t.sm:=Tr.smBd h.ok h.bd hn
theorem Tr.Fine.cells_ne {t:Tr} (h:t.Fine):(t.sm.cells==0)=false:=by
 rw [beq_eq_false_iff_ne];have:=h.wf.pos;have:=t.sm_cells;omega
structure JC (a b t:Tr):Prop where
 lv:t.lv=a.lv++b.lv
 can:t.Can
 two:a.Fine→b.Fine→J2 a b t
theorem join_up {a l r b t' t:Tr} (hs:SidesOf a l r) (hh:b.sm.high+1<a.sm.high) (h1:J2 r b t') (h2:J2 l t' t):J2 a b t:=by
 have a0:=hs.high;have a1:=hs.h1;have a2:=hs.h2;have b1:=h1.lo;have b2:=h1.hi;have c1:=h2.lo;have c2:=h2.hi;have c3:=h2.ex;refine ⟨by rw [h2.lv,h1.lv,hs.lv];simp,h2.fine,?_,?_,fun e=>by omega⟩
 ·by_cases e:t'.sm.high≤l.sm.high+1
  ·have:=c3 (by omega) e;omega
  ·omega
 ·by_cases e:t'.sm.high≤l.sm.high+1
  ·have:=c3 (by omega) e;omega
  ·omega
theorem join_up' {a l r b t' t:Tr} (hs:SidesOf b l r) (hh:a.sm.high+1<b.sm.high) (h1:J2 a l t') (h2:J2 t' r t):J2 a b t:=by
 have a0:=hs.high;have a1:=hs.h1;have a2:=hs.h2;have b1:=h1.lo;have b2:=h1.hi;have c1:=h2.lo;have c2:=h2.hi;have c3:=h2.ex;refine ⟨by rw [h2.lv,h1.lv,hs.lv];simp,h2.fine,?_,?_,fun _ e=>by omega⟩
 ·by_cases e:t'.sm.high≤r.sm.high+1
  ·have:=c3 e (by omega);omega
  ·omega
 ·by_cases e:t'.sm.high≤r.sm.high+1
  ·have:=c3 e (by omega);omega
  ·omega
theorem j2_len {a b t:Tr} (h:J2 a b t):t.row.length=a.row.length+b.row.length:=by rw [Tr.row_len,Tr.row_len,Tr.row_len,h.lv,rowOf_append,List.length_append]
theorem join_fine:∀ (N:Nat) {w:World} {a b:Tr} {ga gb:Nat},a.sm.high+b.sm.high≤(N:Int)→At w a ga→At w b gb→a.Fine→b.Fine→a.row.length+b.row.length≤2097152 →
  Calls Tryz.prog 94 #[.pointer (some ⟨ga,0,none⟩),.pointer (some ⟨gb,0,none⟩)] w fun e w'=>∃ g t,e=.returned (.pointer (some ⟨g,0,none⟩))∧At w' t g∧J2 a b t∧Below w.heap.size w w':=by
 intro N
 induction N with
 | zero =>
  intro w a b ga gb hN ha hb fa fb hn;have:=fa.pos;have:=fb.pos;omega
 | succ N ih =>
  intro w a b ga gb hN ha hb fa fb hn;have IH:Hid (∀ {w:World} {a b:Tr} {ga gb:Nat},a.sm.high+b.sm.high≤(N:Int)→At w a ga→At w b gb→a.Fine→b.Fine→a.row.length+b.row.length≤2097152→Calls Tryz.prog 94 #[.pointer (some ⟨ga,0,none⟩),.pointer (some ⟨gb,0,none⟩)] w fun e w'=>∃ g t,e=.returned (.pointer (some ⟨g,0,none⟩))∧At w' t g∧J2 a b t∧Below w.heap.size w w'):=ih;clear ih;have ca0:=ha.cells;have cb0:=hb.cells;have ca:=ha.high;have cb:=hb.high;have za:=fa.cells_ne;have zb:=fb.cells_ne;have ba:=(fa.smBd (by omega)).high;have bb:=(fb.smBd (by omega)).high;have lta:=ha.lt;have ltb:=hb.lt;have pa:=fa.pos;have pb:=fb.pos;have hb0:Below w.heap.size w w:=bE _ _;by_cases hA:b.sm.high+1<a.sm.high
  ·go_enter Tryz.func94,Tryz.ntmps94;go_wp2_with fail;go_quiet (fail);have hb1:=below_drewN hb0 nq;generalize w.drewN nq=w1 at *;go_wp2_with fail;refine (sides_p (ha.below hb1) fa (by omega) (by omega)).mono ?_;rintro e w2 ⟨gl,gr,l,r,rfl,hl,hr,hs,hb2⟩;have hB2:=hb1.trans (hb2.mono hb1.size);have hlen:=hs.len;have q0:=hs.high;have q1:=hs.h1;have q2:=hs.h2;clear ca cb ca0 cb0;go_wp2_with fail;refine (IH.out (by omega) hr (hb.below hB2) hs.fr fb (by omega)).mono ?_;rintro e w3 ⟨g3,t3,rfl,hA3,hj3,hb3⟩;have hB3:=hB2.trans (hb3.mono hB2.size);have hlen3:=j2_len hj3;have q3:=hj3.lo;have q4:=hj3.hi;go_wp2_with fail;refine (balanced_any (hl.below hb3) hA3 hs.fl hj3.fine (by omega) (by omega) (by omega)).mono ?_;rintro e w4 ⟨g4,t4,rfl,hA4,hj4,hb4⟩;go_wp2_with fail;go_ret;exact ⟨g4,t4,rfl,hA4,join_up hs hA hj3 hj4,hB3.trans (hb4.mono hB3.size)⟩
  ·by_cases hC:a.sm.high+1<b.sm.high
   ·go_enter Tryz.func94,Tryz.ntmps94;go_wp2_with fail;go_quiet (fail);have hb1:=below_drewN hb0 nq;generalize w.drewN nq=w1 at *;have ca1:=(hb1.cell (p:=⟨ga,2,none⟩) lta).trans ca;have cb1:=(hb1.cell (p:=⟨gb,2,none⟩) ltb).trans cb;go_wp2_with fail;go_quiet (fail);have hb1':=hb1.trans ((below_drewN (bE w1.heap.size w1) nq).mono hb1.size);generalize w1.drewN nq=w1' at *;go_wp2_with fail;refine (sides_p (hb.below hb1') fb (by omega) (by omega)).mono ?_;rintro e w2 ⟨gl,gr,l,r,rfl,hl,hr,hs,hb2⟩;have hB2:=hb1'.trans (hb2.mono hb1'.size);have hlen:=hs.len;have q0:=hs.high;have q1:=hs.h1;have q2:=hs.h2;clear ca cb ca0 cb0 ca1 cb1 hb1 hb1';go_wp2_with fail;refine (IH.out (by omega) (ha.below hB2) hl fa hs.fl (by omega)).mono ?_;rintro e w3 ⟨g3,t3,rfl,hA3,hj3,hb3⟩;have hB3:=hB2.trans (hb3.mono hB2.size);have hlen3:=j2_len hj3;have q3:=hj3.lo;have q4:=hj3.hi;go_wp2_with fail;refine (balanced_any hA3 (hr.below hb3) hj3.fine hs.fr (by omega) (by omega) (by omega)).mono ?_;rintro e w4 ⟨g4,t4,rfl,hA4,hj4,hb4⟩;go_wp2_with fail;go_ret;exact ⟨g4,t4,rfl,hA4,join_up' hs hC hj3 hj4,hB3.trans (hb4.mono hB3.size)⟩
   ·go_enter Tryz.func94,Tryz.ntmps94;go_wp2_with fail;go_quiet (fail);have hb1:=below_drewN hb0 nq;generalize w.drewN nq=w1 at *;have ca1:=(hb1.cell (p:=⟨ga,2,none⟩) lta).trans ca;have cb1:=(hb1.cell (p:=⟨gb,2,none⟩) ltb).trans cb;go_wp2_with fail;go_quiet (fail);have hb1':=hb1.trans ((below_drewN (bE w1.heap.size w1) nq).mono hb1.size);generalize w1.drewN nq=w1' at *;go_wp2_with fail;refine (paired_p (ha.below hb1') (hb.below hb1') fa fb hn).mono ?_;rintro e w2 ⟨g2,rfl,hA2,hb2⟩;go_wp2_with fail;go_ret;exact ⟨g2,_,rfl,hA2,j2_pair fa fb (by omega) (by omega),hb1'.trans (hb2.mono hb1'.size)⟩
theorem join_any {w:World} {a b:Tr} {ga gb:Nat} (ha:At w a ga) (hb:At w b gb) (fa:a.Can) (fb:b.Can) (hn:a.row.length+b.row.length≤2097152) :
  Calls Tryz.prog 94 #[.pointer (some ⟨ga,0,none⟩),.pointer (some ⟨gb,0,none⟩)] w fun e w'=>∃ g t,e=.returned (.pointer (some ⟨g,0,none⟩))∧At w' t g∧JC a b t∧Below w.heap.size w w':=by
 rcases fa with rfl|fa
 ·have ca0:=ha.cells;have e0:Tr.nil.sm.cells=0:=rfl;rw [e0] at ca0;go_enter Tryz.func94,Tryz.ntmps94;go_wp2_with fail;go_ret;exact ⟨gb,b,rfl,hb,⟨rfl,fb,fun h=>h.wf.elim⟩,bE _ _⟩
 ·rcases fb with rfl|fb
  ·have ca0:=ha.cells;have cb0:=hb.cells;have e0:Tr.nil.sm.cells=0:=rfl;rw [e0] at cb0;have za:=fa.cells_ne;go_enter Tryz.func94,Tryz.ntmps94;go_wp2_with fail;go_ret;exact ⟨ga,a,rfl,ha,⟨by simp [Tr.lv],.inr fa,fun _ h=>h.wf.elim⟩,bE _ _⟩
  ·have b1:=(fa.smBd (by omega)).high;have b2:=(fb.smBd (by omega)).high;refine (join_fine (a.sm.high+b.sm.high).toNat (by omega) ha hb fa fb hn).mono ?_;rintro e w' ⟨g,t,rfl,hA,hj,hB⟩;exact ⟨g,t,rfl,hA,⟨hj.lv,.inr hj.fine,fun _ _=>hj⟩,hB⟩
theorem wpList_append_hr2 {P:Program} {w:World} {ops:Array Oper} {rest:List Oper} {o:Oper} {a:Act} {Q:Exit→Act→World→Prop} (hgd:o.guard=none) (s x:Operand) (t u:TypeId)
  (ho:o.op=.call { callee:=.builtin .append,args:=#[s,x],argTypes:=#[t,u] }) (v y:Value) (hs:a.eval s=v) (hx:a.eval x=y) {v':Value} {w':World}
  (hr:(Builtin.append_ #[t,u] o.type #[v,y]).run P w=.ok v' w') (h:wpList P ops Q rest (a.put o.dst v') w'):wpList P ops Q (o::rest) a w :=
 wpList_plain hgd fun K hK=>by
  unfold Oper.wp execOp;simp only [ho,resolve,invoke,builtin,Sem.run_bind,Sem.run_pure,Result.andThen_ok,List.map_toArray,List.map_cons,List.map_nil,hs,hx,hr];exact hK _ _ h
theorem growRun (k:Nat) (h0:0<k) (hk:k≤1048576) (w:World):∃ cap cur w',(Builtin.append_ #[74,3] 74 #[.slice none 0 0,.int .i64 (k:Int)]).run Tryz.prog w=.ok (.slice (some ⟨w.heap.size,0,none⟩) k cap) w'∧k≤cap∧cap≤maxLen∧w'.heap[w.heap.size]?=some (.cells cur 21)∧cur.size=cap∧Below w.heap.size w w':=by
 obtain ⟨i,z,hi,hz,hsz,hby,hzc⟩:=kindN.info;have hml:k≤maxLen:=by unfold maxLen;omega
 have hr:=run_append_grow_zeros (P:=Tryz.prog) w 74 3 74 21 i z .i64 .i64 kindN.under Tryz.underlying3 hi hz none 0 0 [] (by simp [Builtin.firstCells]) k h0 (by omega) (by omega) (by omega) (by rw [hby];omega) (growslice_fits (by omega) (by rw [hby];omega));rw [Nat.zero_add] at hr;have h1:=grownCap_ge w k 0 21;refine ⟨_,_,_,hr,h1,grownCap_le_maxLen w k 0 _ hml,heap_alloc_new _ _,?_,((bE _ _).drew).alloc (lR _) _⟩;simp [Builtin.zeroCells,hzc];omega
theorem grow_any (k:Nat) (h0:0<k) (hk:k≤1048576) (w:World) :
  Calls Tryz.prog 135 #[.slice none 0 0,.int .i64 (k:Int)] w fun e w'=>∃ v,e=.returned v∧OwnF runeV 1 21 w' w.heap.size v []∧Below w.heap.size w w':=by
 obtain ⟨cap,cur,w1,hr,hc1,hc2,hh,hcs,hb⟩:=growRun k h0 hk w;go_enter Tryz.func135,Tryz.ntmps135;go_wp2_with (at_builtin;refine wpList_append_hr2 rfl _ _ 74 3 rfl _ _ rfl rfl hr ?_);go_ret;refine ⟨_,rfl,⟨rfl,.inr ⟨w.heap.size,cap,cur,rfl,lR _,hh,Nat.zero_le _,hc2,by omega,by simp [flatF]⟩⟩,hb⟩
structure TwoRows (w:World) (g:Nat) (a1:Option Addr) (n1 c1:Nat) (r1:List Int) (a2:Option Addr) (n2 c2:Nat) (r2:List Int):Prop where
 first:w.cell? ⟨g,0,none⟩=some (.slice a1 n1 c1)
 second:w.cell? ⟨g,1,none⟩=some (.slice a2 n2 c2)
 lt:g<w.heap.size
 row1:Rw runeV 1 w a1 n1 c1 r1
 row2:Rw runeV 1 w a2 n2 c2 r2
theorem TwoRows.below {w w':World} {g:Nat} {a1:Option Addr} {n1 c1:Nat} {r1:List Int} {a2:Option Addr} {n2 c2:Nat} {r2:List Int} (h:TwoRows w g a1 n1 c1 r1 a2 n2 c2 r2) (hb:Below w.heap.size w w'):TwoRows w' g a1 n1 c1 r1 a2 n2 c2 r2 :=
 ⟨(hb.cell (p:=⟨g,0,none⟩) h.lt).trans h.first,(hb.cell (p:=⟨g,1,none⟩) h.lt).trans h.second,by have:=hb.size;have:=h.lt;omega,h.row1.below hb,h.row2.below hb⟩
theorem concatRunes_any {w:World} {g:Nat} {a1:Option Addr} {n1 c1:Nat} {r1:List Int} {a2:Option Addr} {n2 c2:Nat} {r2:List Int} (h:TwoRows w g a1 n1 c1 r1 a2 n2 c2 r2) (p1:0<n1) (p2:0<n2) (q1:n1≤64) (q2:n2≤64) :
  Calls Tryz.prog 121 #[.slice (some ⟨g,0,none⟩) 2 2] w fun e w'=>∃ v,e=.returned v∧OwnF runeV 1 21 w' w.heap.size v (r1++r2)∧Below w.heap.size w w':=by
 have d0:=h.first;have d1:=h.second;have hg:=h.lt;have l1:=h.row1.len;have l2:=h.row2.len;have HT:Hid (TwoRows w g a1 n1 c1 r1 a2 n2 c2 r2):=h;clear h;go_enter Tryz.func121,Tryz.ntmps121;go_wp2_with fail;go_loop [3,11] (fun vs vi=>(vs=.int .i64 0∧vi=.int .i64 0)∨(vs=.int .i64 (n1:Int)∧vi=.int .i64 1)∨(vs=.int .i64 ((n1+n2:Nat):Int)∧vi=.int .i64 2)) (fun _ i=>2-(RowKit.intOf i).toNat)
 case atStart=>exact .inl ⟨rfl,rfl⟩
 case round =>
  rcases hrel with ⟨rfl,rfl⟩|⟨rfl,rfl⟩|⟨rfl,rfl⟩
  ·go_wp2_with fail;exact ⟨.inr (.inl ⟨by go_num,rfl⟩),by simp [RowKit.intOf]⟩
  ·go_wp2_with fail;exact ⟨.inr (.inr ⟨by go_num,rfl⟩),by simp [RowKit.intOf]⟩
  ·go_wp2_with fail;refine (grow_any (n1+n2) (by omega) (by omega) _).mono ?_;rintro e w1 ⟨v1,rfl,ho1,hb1⟩;go_wp2_with fail;go_loopw [6,27] (fun v vi w'=>∃ k:Nat,k≤2∧vi=.int .i64 (k:Int)∧OwnF runeV 1 21 w' w.heap.size v (match k with|0=>[]|1=>r1|_=>r1++r2)∧Below w.heap.size w w') (fun _ i _=>2-(RowKit.intOf i).toNat)
   case atStart=>exact ⟨0,by omega,rfl,ho1,hb1⟩
   case round =>
    obtain ⟨k,hk,rfl,ho,hb⟩:=hrel;have hT2:=HT.out.below hb;have e0:=hT2.first;have e1:=hT2.second;have hsz:=hb.size;have hcs:k=0∨k=1∨k=2:=by omega
    rcases hcs with rfl|rfl|rfl
    ·simp only at ho;obtain ⟨g4,cap4,w4,hr4,ho4,hb4,_,_⟩:=appendF kindN layN ho hsz hT2.row1 p1 (by simp;omega) (by simp;omega) 74;clear d0 d1 e1;go_wp2_with (at_builtin;refine wpList_append_hr rfl _ _ 74 rfl _ _ rfl rfl hr4 ?_);refine ⟨⟨1,by omega,by go_num,?_,hb.trans hb4⟩,by simp [RowKit.intOf]⟩;simpa using ho4
    ·simp only at ho;obtain ⟨g4,cap4,w4,hr4,ho4,hb4,_,_⟩:=appendF kindN layN ho hsz hT2.row2 p2 (by omega) (by omega) 74;clear d0 d1 e0;go_wp2_with (at_builtin;refine wpList_append_hr rfl _ _ 74 rfl _ _ rfl rfl hr4 ?_);rw [l1] at ho4;exact ⟨⟨2,by omega,by go_num,ho4,hb.trans hb4⟩,by simp [RowKit.intOf]⟩
    ·simp only at ho;go_wp2_with fail;go_ret;exact ⟨_,rfl,ho,hb⟩
theorem cut_rw {α:Type} {f:α→List Value} {S T:TypeId} {k by_:Nat} (hK:Kind Tryz.prog S T k by_) (he:Tryz.prog.elem S=T) {w:World} {g off n cap:Nat} {l:List α} (h:Rw f k w (some ⟨g,off,none⟩) n cap l) (lo hi:Nat) (h1:lo≤hi) (h2:hi≤n) :
  ∃ a',(∀ g' off',a'=some ⟨g',off',none⟩→g'=g)∧(∀ W:World,(Instr.slice S (.slice (some ⟨g,off,none⟩) n cap) (some (.int .i64 (lo:Int))) (some (.int .i64 (hi:Int))) none).run Tryz.prog W=.ok (.slice a' (hi-lo) (cap-lo)) W)∧Rw f k w a' (hi-lo) (cap-lo) ((l.take hi).drop lo):=by
 have hr:=h.room;have hl:=h.len;by_cases hc:lo<cap
 ·exact ⟨some ⟨g,off+lo*k,none⟩,fun g' off' e=>(by simp at e;exact e.1.symm),fun W=>cut_both hK he W g off n cap lo hi h1 (by omega) hc,(h.take hi h2).drop lo h1⟩
 ·obtain rfl:lo=cap:=by omega
  obtain rfl:hi=lo:=by omega
  obtain ⟨i,z,hi',hz,hsz,hby,_⟩:=hK.info;refine ⟨some ⟨g,off,none⟩,fun g' off' e=>(by simp at e;exact e.1.symm),fun W=>?_,⟨by simp,⟨by omega,by omega⟩,fun h0=>by omega⟩⟩;have:=run_slice_lh (P:=Tryz.prog) W S (some ⟨g,off,none⟩) n hi (by rw [he];exact hK.under) .i64 .i64 (hi:Int) (hi:Int) (by omega) (by omega) (by omega);rw [this,he];simp [sizeOf,typeInfo,hi',hsz,sliced]
def partL (rs:List Int) (h:Int) (lo hi:Nat):List (List Int×Int):=if hi≤lo then [] else [((rs.take hi).drop lo,h)]
structure PartOf (rs:List Int) (h:Int) (lo hi:Nat) (t:Tr):Prop where
 lv:t.lv=partL rs h lo hi
 can:t.Can
theorem part_mk {rs:List Int} {h:Int} {lo hi:Nat} (h1:lo≤hi) (h2:hi≤rs.length) (hl:Lim h):PartOf rs h lo hi (mkPiece ((rs.take hi).drop lo) h):=by
 have hlen:((rs.take hi).drop lo).length=hi-lo:=by rw [List.length_drop,List.length_take];omega
 unfold mkPiece;by_cases e:hi≤lo
 ·rw [if_pos (List.eq_nil_of_length_eq_zero (by omega))];exact ⟨by unfold partL;rw [if_pos e];rfl,.inl rfl⟩
 ·have hne:(rs.take hi).drop lo≠[]:=by intro e2;rw [e2] at hlen;simp at hlen;omega
  rw [if_neg hne];exact ⟨by unfold partL;rw [if_neg e];rfl,.inr ⟨hne,⟨hl,by rw [Int.sub_zero];exact hl⟩,trivial⟩⟩
theorem part_any {w:World} {rs:List Int} {h st:Int} {g:Nat} (hA:At w (.leaf rs h st) g) (hf:(Tr.leaf rs h st).Fine) (lo hi:Nat) (h1:lo≤hi) (h2:hi≤rs.length) (hn:rs.length≤2097152) :
  Calls Tryz.prog 91 #[.pointer (some ⟨g,0,none⟩),.int .i64 (lo:Int),.int .i64 (hi:Int)] w fun e w'=>∃ g' t,e=.returned (.pointer (some ⟨g',0,none⟩))∧At w' t g'∧PartOf rs h lo hi t∧Below w.heap.size w w':=by
 have hne:rs≠[]:=hf.wf;have hpos:0<rs.length:=List.length_pos_iff.2 hne;have c0:=hA.cells;have hsc:(Tr.leaf rs h st).sm.cells=(rs.length:Int):=rfl;have hgl:=hA.lt;by_cases hall:lo=0∧hi=rs.length
 ·obtain ⟨rfl,rfl⟩:=hall;have hp:PartOf rs h 0 rs.length (.leaf rs h st):=⟨by unfold partL;rw [if_neg (by omega)];simp [Tr.lv],.inr hf⟩;rw [hsc] at c0;clear hsc;go_enter Tryz.func91,Tryz.ntmps91;go_wp2_with fail;go_ret;exact ⟨g,_,rfl,hA,hp,bE _ _⟩
 ·have hmk:=part_mk (rs:=rs) (h:=h) h1 h2 hf.bd.1;obtain ⟨a,cap,hN,hR⟩:=hA;obtain ⟨ga,off,rfl,hga,_⟩:=hR.rw_.cells hpos;obtain ⟨a',hsame,hcut,hR0⟩:=cut_rw kindN elemN hR.rw_ lo hi h1 h2
  have hR':RwN w a' (hi-lo) (cap-lo) ((rs.take hi).drop lo):=⟨hR0,fun h0 g' off' e=>by
   rw [hsame g' off' e]
   exact hR.typ hpos ga off rfl⟩
  have HPC:Hid (∀ W,Below w.heap.size w W→Calls Tryz.prog 55 #[.slice a' (hi-lo) (cap-lo),.int .i64 h] W fun e w'=>∃ g,e=.returned (.pointer (some ⟨g,0,none⟩))∧At w' (mkPiece ((rs.take hi).drop lo) h) g∧Below W.heap.size W w'):=fun W hW=>piece_any (hR'.below hW) h (by omega)
  have HH:Hid (∀ W,Calls Tryz.prog 30 #[.agg (Tr.leaf rs h st).sm.vals] W fun e w'=>e=.returned (.int .i64 h)∧Below W.heap.size W w'):=fun W=>smHid_any (Tr.leaf rs h st).sm W
  obtain ⟨c0,c1,c2,c3,c4,c5,c6,c7,c8,c9⟩:=hN.ten;obtain ⟨c10,_,_,_⟩:=hN.four;generalize (Tr.leaf rs h st).sm=sm at *;clear hR hR' hR0 hsame hN hf;have hcs:(((lo:Int)==0)=false)∨(((lo:Int)==0)=true∧((hi:Int)==sm.cells)=false):=by
   by_cases e:lo=0
   ·right;exact ⟨by rw [beq_iff_eq];omega,by rw [beq_eq_false_iff_ne,hsc];intro e2;exact hall ⟨e,by omega⟩⟩
   ·left;rw [beq_eq_false_iff_ne];omega
  clear hsc;have hcur:Below w.heap.size w w:=bE _ _;generalize hn1:rs.length=n at *;generalize hd1:hi-lo=m1 at *;generalize hd2:cap-lo=m2 at *;clear hd1 hd2 hall hn1;rcases hcs with z1|⟨z1,z2⟩
  all_goals
   go_enter Tryz.func91,Tryz.ntmps91;go_wp2_with fail
   go_region_held3 (fun W=>W.cell? ⟨g,0,none⟩=some (.int .i64 sm.cells)∧W.cell? ⟨g,1,none⟩=some (.int .i64 sm.pieces)∧W.cell? ⟨g,2,none⟩=some (.int .i64 sm.high)∧W.cell? ⟨g,3,none⟩=some (.int .i64 sm.least)∧W.cell? ⟨g,4,none⟩=some (.int .i64 sm.most)∧W.cell? ⟨g,5,none⟩=some (.int .i64 sm.lowest)∧W.cell? ⟨g,6,none⟩=some (.int .i64 sm.fc)∧W.cell? ⟨g,7,none⟩=some (.int .i64 sm.fh)∧W.cell? ⟨g,8,none⟩=some (.int .i64 sm.lc)∧W.cell? ⟨g,9,none⟩=some (.int .i64 sm.lh)∧W.cell? ⟨g,10,none⟩=some (.slice (some ⟨ga,off,none⟩) n cap)) (first|exact ⟨c0,c1,c2,c3,c4,c5,c6,c7,c8,c9,c10⟩|exact ⟨e0,e1,e2,e3,e4,e5,e6,e7,e8,e9,e10⟩)
    (first
     | (go_at_call 30;refine (HH.out _).mono ?_;rintro e w1 ⟨rfl,hb1⟩;have hcur:Below w.heap.size w w1:=(by first|exact hcur.trans (hb1.mono hcur.size)|exact hcur.drew.trans (hb1.mono hcur.size));have e0:=(hcur.cell (p:=⟨g,0,none⟩) hgl).trans c0;have e1:=(hcur.cell (p:=⟨g,1,none⟩) hgl).trans c1;have e2:=(hcur.cell (p:=⟨g,2,none⟩) hgl).trans c2;have e3:=(hcur.cell (p:=⟨g,3,none⟩) hgl).trans c3;have e4:=(hcur.cell (p:=⟨g,4,none⟩) hgl).trans c4;have e5:=(hcur.cell (p:=⟨g,5,none⟩) hgl).trans c5;have e6:=(hcur.cell (p:=⟨g,6,none⟩) hgl).trans c6;have e7:=(hcur.cell (p:=⟨g,7,none⟩) hgl).trans c7;have e8:=(hcur.cell (p:=⟨g,8,none⟩) hgl).trans c8;have e9:=(hcur.cell (p:=⟨g,9,none⟩) hgl).trans c9;have e10:=(hcur.cell (p:=⟨g,10,none⟩) hgl).trans c10)
     | (go_at_call 55;refine (HPC.out _ ?_).mono ?_;(first|exact hcur|exact hcur.drew);rintro e w2 ⟨g2,rfl,hA2,hb2⟩;have hcur:Below w.heap.size w w2:=(by first|exact hcur.trans (hb2.mono hcur.size)|exact hcur.drew.trans (hb2.mono hcur.size));have e0:=(hcur.cell (p:=⟨g,0,none⟩) hgl).trans c0;have e1:=(hcur.cell (p:=⟨g,1,none⟩) hgl).trans c1;have e2:=(hcur.cell (p:=⟨g,2,none⟩) hgl).trans c2;have e3:=(hcur.cell (p:=⟨g,3,none⟩) hgl).trans c3;have e4:=(hcur.cell (p:=⟨g,4,none⟩) hgl).trans c4;have e5:=(hcur.cell (p:=⟨g,5,none⟩) hgl).trans c5;have e6:=(hcur.cell (p:=⟨g,6,none⟩) hgl).trans c6;have e7:=(hcur.cell (p:=⟨g,7,none⟩) hgl).trans c7;have e8:=(hcur.cell (p:=⟨g,8,none⟩) hgl).trans c8;have e9:=(hcur.cell (p:=⟨g,9,none⟩) hgl).trans c9;have e10:=(hcur.cell (p:=⟨g,10,none⟩) hgl).trans c10))
   all_goals
    go_wp2_with fail;go_ret;exact ⟨g2,_,rfl,hA2,hmk,hcur⟩
theorem fits_yes (c1 h1 c2 h2:Int) (e1:h1=h2) (e2:c1+c2≤32) (b1:0≤c1∧c1≤2097152) (b2:0≤c2∧c2≤2097152) (w:World) :
  Calls Tryz.prog 93 #[.agg #[.int .i64 c1,.int .i64 h1],.agg #[.int .i64 c2,.int .i64 h2]] w fun e w'=>e=.returned (.bool true)∧Below w.heap.size w w':=by
 subst e1;have z:(h1==h1)=true:=by simp
 go_enter Tryz.func93,Tryz.ntmps93;go_wp2_with fail;go_ret;exact ⟨rfl,((bE _ _).alloc (lR _) _).alloc (by simp) _⟩
theorem fits_no (c1 h1 c2 h2:Int) (e1:¬ (h1=h2∧c1+c2≤32)) (b1:0≤c1∧c1≤2097152) (b2:0≤c2∧c2≤2097152) (w:World) :
  Calls Tryz.prog 93 #[.agg #[.int .i64 c1,.int .i64 h1],.agg #[.int .i64 c2,.int .i64 h2]] w fun e w'=>e=.returned (.bool false)∧Below w.heap.size w w':=by
 have hcs:(h1==h2)=false∨((h1==h2)=true∧32<c1+c2):=by
  by_cases e:h1=h2
  ·right;exact ⟨by rw [beq_iff_eq];exact e,by omega⟩
  ·left;rw [beq_eq_false_iff_ne];exact e
 clear e1;rcases hcs with z|⟨z,z2⟩
 all_goals
  go_enter Tryz.func93,Tryz.ntmps93;go_wp2_with fail;go_ret;exact ⟨by first|rfl|exact congrArg (fun b=>Ending.returned (.bool b)) (by simp;omega),((bE _ _).alloc (lR _) _).alloc (by simp) _⟩
theorem twoRows_new {w:World} {a1:Option Addr} {n1 c1:Nat} {r1:List Int} {a2:Option Addr} {n2 c2:Nat} {r2:List Int} (h1:Rw runeV 1 w a1 n1 c1 r1) (h2:Rw runeV 1 w a2 n2 c2 r2) (t:TypeId) :
  TwoRows (w.alloc (.cells #[.slice a1 n1 c1,.slice a2 n2 c2] t)) w.heap.size a1 n1 c1 r1 a2 n2 c2 r2:=by
 have hb:Below w.heap.size w (w.alloc (.cells #[.slice a1 n1 c1,.slice a2 n2 c2] t)):=(bE _ _).alloc (lR _) _;have hh:=heap_alloc_new w (.cells #[.slice a1 n1 c1,.slice a2 n2 c2] t);exact ⟨by simp only [World.cell?,hh];rfl,by simp only [World.cell?,hh];rfl,by simp,h1.below hb,h2.below hb⟩
theorem merged_any {w:World} {r1 r2:List Int} {h s1 s2:Int} {gp gq:Nat} (hP:At w (.leaf r1 h s1) gp) (hQ:At w (.leaf r2 h s2) gq) (n1:r1≠[]) (n2:r2≠[]) (q1:r1.length≤64) (q2:r2.length≤64) :
  Calls Tryz.prog 95 #[.pointer (some ⟨gp,0,none⟩),.pointer (some ⟨gq,0,none⟩)] w fun e w'=>∃ g,e=.returned (.pointer (some ⟨g,0,none⟩))∧At w' (.leaf (r1++r2) h 0) g∧Below w.heap.size w w':=by
 have p1:0<r1.length:=List.length_pos_iff.2 n1;have p2:0<r2.length:=List.length_pos_iff.2 n2;have hgp:=hP.lt;have hgq:=hQ.lt;obtain ⟨a1,k1,hN1,hR1⟩:=hP;obtain ⟨a2,k2,hN2,hR2⟩:=hQ;obtain ⟨c0,c1,c2,c3,c4,c5,c6,c7,c8,c9⟩:=hN1.ten;obtain ⟨c10,_,_,_⟩:=hN1.four;obtain ⟨d10,_,_,_⟩:=hN2.four;have HC:Hid (∀ W g,TwoRows W g a1 r1.length k1 r1 a2 r2.length k2 r2→Calls Tryz.prog 121 #[.slice (some ⟨g,0,none⟩) 2 2] W fun e w'=>∃ a' c',e=.returned (.slice a' (r1++r2).length c')∧RwN w' a' (r1++r2).length c' (r1++r2)∧Below W.heap.size W w'):=fun W g hT=>by
  refine (concatRunes_any hT p1 p2 q1 q2).mono ?_;rintro e w' ⟨v,rfl,ho,hb⟩;obtain ⟨a',c',rfl⟩:=ho.shape;exact ⟨a',c',rfl,ho.rwn,hb⟩
 have HT:Hid (∀ W,Below w.heap.size w W→TwoRows (W.alloc (.cells #[.slice a1 r1.length k1,.slice a2 r2.length k2] 74)) W.heap.size a1 r1.length k1 r1 a2 r2.length k2 r2):=fun W hW=>twoRows_new (hR1.rw_.below hW) (hR2.rw_.below hW) _
 have HH:Hid (∀ W,Calls Tryz.prog 30 #[.agg (Tr.leaf r1 h s1).sm.vals] W fun e w'=>e=.returned (.int .i64 h)∧Below W.heap.size W w'):=fun W=>smHid_any (Tr.leaf r1 h s1).sm W
 have hl2:(r1++r2).length≤2097152:=by rw [List.length_append];omega
 have hne:r1++r2≠[]:=by simp [n1]
 have HPC:Hid (∀ W a' c',RwN W a' (r1++r2).length c' (r1++r2)→Calls Tryz.prog 55 #[.slice a' (r1++r2).length c',.int .i64 h] W fun e w'=>∃ g,e=.returned (.pointer (some ⟨g,0,none⟩))∧At w' (.leaf (r1++r2) h 0) g∧Below W.heap.size W w'):=fun W a' c' hR=>by
  have:=piece_any hR h hl2;rw [mkPiece_leaf h hne] at this;exact this
 clear hR1 hR2 hN1 hN2 n1 n2 hne hl2;generalize (Tr.leaf r1 h s1).sm=sm at *;generalize r1++r2=r3 at *;generalize r3.length=l3 at *;generalize r1.length=l1 at *;generalize r2.length=l2 at *;have hcur:Below w.heap.size w w:=bE _ _;go_enter Tryz.func95,Tryz.ntmps95;go_wp2_with fail
 go_region_held3 (fun W=>W.cell? ⟨gp,0,none⟩=some (.int .i64 sm.cells)∧W.cell? ⟨gp,1,none⟩=some (.int .i64 sm.pieces)∧W.cell? ⟨gp,2,none⟩=some (.int .i64 sm.high)∧W.cell? ⟨gp,3,none⟩=some (.int .i64 sm.least)∧W.cell? ⟨gp,4,none⟩=some (.int .i64 sm.most)∧W.cell? ⟨gp,5,none⟩=some (.int .i64 sm.lowest)∧W.cell? ⟨gp,6,none⟩=some (.int .i64 sm.fc)∧W.cell? ⟨gp,7,none⟩=some (.int .i64 sm.fh)∧W.cell? ⟨gp,8,none⟩=some (.int .i64 sm.lc)∧W.cell? ⟨gp,9,none⟩=some (.int .i64 sm.lh)∧W.cell? ⟨gp,10,none⟩=some (.slice a1 l1 k1)∧W.cell? ⟨gq,10,none⟩=some (.slice a2 l2 k2)) (first|exact ⟨c0,c1,c2,c3,c4,c5,c6,c7,c8,c9,c10,d10⟩|exact ⟨e0,e1,e2,e3,e4,e5,e6,e7,e8,e9,e10,f10⟩|exact ⟨cell_al c0 _,cell_al c1 _,cell_al c2 _,cell_al c3 _,cell_al c4 _,cell_al c5 _,cell_al c6 _,cell_al c7 _,cell_al c8 _,cell_al c9 _,cell_al c10 _,cell_al d10 _⟩|exact ⟨cell_al e0 _,cell_al e1 _,cell_al e2 _,cell_al e3 _,cell_al e4 _,cell_al e5 _,cell_al e6 _,cell_al e7 _,cell_al e8 _,cell_al e9 _,cell_al e10 _,cell_al f10 _⟩)
  (first
   | (go_at_call 121;refine (HC.out _ _ ?_).mono ?_;(first|exact HT.out _ hcur|exact HT.out _ hcur.drew|exact (HT.out _ hcur).below (bE _ _).drew);rintro e w1 ⟨a',c',rfl,hRn,hb1⟩;have hcur:Below w.heap.size w w1:=(by first|exact (hcur.alloc hcur.size _).trans (hb1.mono (by simp))|exact (hcur.drew.alloc hcur.size _).trans (hb1.mono (by simp))|exact ((hcur.alloc hcur.size _).drew).trans (hb1.mono (by simp)));have e0:=(hcur.cell (p:=⟨gp,0,none⟩) hgp).trans c0;have e1:=(hcur.cell (p:=⟨gp,1,none⟩) hgp).trans c1;have e2:=(hcur.cell (p:=⟨gp,2,none⟩) hgp).trans c2;have e3:=(hcur.cell (p:=⟨gp,3,none⟩) hgp).trans c3;have e4:=(hcur.cell (p:=⟨gp,4,none⟩) hgp).trans c4;have e5:=(hcur.cell (p:=⟨gp,5,none⟩) hgp).trans c5;have e6:=(hcur.cell (p:=⟨gp,6,none⟩) hgp).trans c6;have e7:=(hcur.cell (p:=⟨gp,7,none⟩) hgp).trans c7;have e8:=(hcur.cell (p:=⟨gp,8,none⟩) hgp).trans c8;have e9:=(hcur.cell (p:=⟨gp,9,none⟩) hgp).trans c9;have e10:=(hcur.cell (p:=⟨gp,10,none⟩) hgp).trans c10;have f10:=(hcur.cell (p:=⟨gq,10,none⟩) hgq).trans d10)
   | (go_at_call 30;refine (HH.out _).mono ?_;rintro e w2 ⟨rfl,hb2⟩;have hRn2:=hRn.below (by first|exact hb2|exact (bE _ _).drew.trans hb2);have hcur:Below w.heap.size w w2:=(by first|exact hcur.trans (hb2.mono hcur.size)|exact hcur.drew.trans (hb2.mono hcur.size));have e0:=(hcur.cell (p:=⟨gp,0,none⟩) hgp).trans c0;have e1:=(hcur.cell (p:=⟨gp,1,none⟩) hgp).trans c1;have e2:=(hcur.cell (p:=⟨gp,2,none⟩) hgp).trans c2;have e3:=(hcur.cell (p:=⟨gp,3,none⟩) hgp).trans c3;have e4:=(hcur.cell (p:=⟨gp,4,none⟩) hgp).trans c4;have e5:=(hcur.cell (p:=⟨gp,5,none⟩) hgp).trans c5;have e6:=(hcur.cell (p:=⟨gp,6,none⟩) hgp).trans c6;have e7:=(hcur.cell (p:=⟨gp,7,none⟩) hgp).trans c7;have e8:=(hcur.cell (p:=⟨gp,8,none⟩) hgp).trans c8;have e9:=(hcur.cell (p:=⟨gp,9,none⟩) hgp).trans c9;have e10:=(hcur.cell (p:=⟨gp,10,none⟩) hgp).trans c10;have f10:=(hcur.cell (p:=⟨gq,10,none⟩) hgq).trans d10)
   | (go_at_call 55;refine (HPC.out _ _ _ ?_).mono ?_;(first|exact hRn2|exact hRn2.below (bE _ _).drew);rintro e w3 ⟨g3,rfl,hA3,hb3⟩;have hcur:Below w.heap.size w w3:=(by first|exact hcur.trans (hb3.mono hcur.size)|exact hcur.drew.trans (hb3.mono hcur.size));have e0:=(hcur.cell (p:=⟨gp,0,none⟩) hgp).trans c0;have e1:=(hcur.cell (p:=⟨gp,1,none⟩) hgp).trans c1;have e2:=(hcur.cell (p:=⟨gp,2,none⟩) hgp).trans c2;have e3:=(hcur.cell (p:=⟨gp,3,none⟩) hgp).trans c3;have e4:=(hcur.cell (p:=⟨gp,4,none⟩) hgp).trans c4;have e5:=(hcur.cell (p:=⟨gp,5,none⟩) hgp).trans c5;have e6:=(hcur.cell (p:=⟨gp,6,none⟩) hgp).trans c6;have e7:=(hcur.cell (p:=⟨gp,7,none⟩) hgp).trans c7;have e8:=(hcur.cell (p:=⟨gp,8,none⟩) hgp).trans c8;have e9:=(hcur.cell (p:=⟨gp,9,none⟩) hgp).trans c9;have e10:=(hcur.cell (p:=⟨gp,10,none⟩) hgp).trans c10;have f10:=(hcur.cell (p:=⟨gq,10,none⟩) hgq).trans d10))
 all_goals
  go_wp2_with fail;go_ret;exact ⟨g3,rfl,hA3,hcur⟩
theorem fit_sm {a b:Tr} (fa:a.Fine) (fb:b.Fine) {A0 B0:List (List Int×Int)} {p q:List Int×Int} (ea:a.lv=A0++[p]) (eb:b.lv=q::B0):a.sm.lc=p.1.length∧a.sm.lh=p.2∧b.sm.fc=q.1.length∧b.sm.fh=q.2:=by
 obtain ⟨_,⟨p',k,e1,e2,e3⟩⟩:=fa.wf.ends;obtain ⟨⟨q',m,f1,f2,f3⟩,_⟩:=fb.wf.ends;rw [ea] at e1;rw [eb] at f1;have h1:=List.append_inj' e1 rfl;simp at h1;obtain ⟨_,rfl⟩:=h1;simp at f1;obtain ⟨rfl,_⟩:=f1;exact ⟨e2,e3,f2,f3⟩
theorem At.cell8 {w:World} {t:Tr} {g:Nat} (h:At w t g):w.cell? ⟨g,6,none⟩=some (.int .i64 t.sm.fc)∧w.cell? ⟨g,7,none⟩=some (.int .i64 t.sm.fh)∧w.cell? ⟨g,8,none⟩=some (.int .i64 t.sm.lc)∧w.cell? ⟨g,9,none⟩=some (.int .i64 t.sm.lh):=by
 obtain ⟨_,_,_,_,_,_,h6,h7,h8,h9⟩:=h.ten;exact ⟨h6,h7,h8,h9⟩
theorem concat_meet {w:World} {a b:Tr} {ga gb:Nat} (ha:At w a ga) (hb:At w b gb) (fa:a.Can) (fb:b.Can) (hm:Meet a.lv b.lv) (hn:a.row.length+b.row.length≤2097152) :
  Calls Tryz.prog 58 #[.pointer (some ⟨ga,0,none⟩),.pointer (some ⟨gb,0,none⟩)] w fun e w'=>∃ g t,e=.returned (.pointer (some ⟨g,0,none⟩))∧At w' t g∧JC a b t∧Below w.heap.size w w':=by
 have lta:=ha.lt;have ltb:=hb.lt;have HJ:Hid (∀ W,Below w.heap.size w W→Calls Tryz.prog 94 #[.pointer (some ⟨ga,0,none⟩),.pointer (some ⟨gb,0,none⟩)] W fun e w'=>∃ g t,e=.returned (.pointer (some ⟨g,0,none⟩))∧At w' t g∧JC a b t∧Below W.heap.size W w'):=fun W hW=>join_any (ha.below hW) (hb.below hW) fa fb hn
 have c0:=ha.cells;have d0:=hb.cells;have hb0:Below w.heap.size w w:=bE _ _;rcases fa with rfl|fa
 ·have e0:Tr.nil.sm.cells=0:=rfl;rw [e0] at c0;clear d0 hm;go_enter Tryz.func58,Tryz.ntmps58;go_wp2_with fail;go_quiet (fail);have hb1:=below_drewN hb0 nq;generalize w.drewN nq=w1 at *;go_wp2_with fail;refine (HJ.out _ hb1).mono ?_;rintro e w2 ⟨g2,t2,rfl,hA2,hj2,hb2⟩;go_wp2_with fail;go_ret;exact ⟨g2,t2,rfl,hA2,hj2,hb1.trans (hb2.mono hb1.size)⟩
 ·have za:=fa.cells_ne;rcases fb with rfl|fb
  ·have e0:Tr.nil.sm.cells=0:=rfl;rw [e0] at d0;clear hm;go_enter Tryz.func58,Tryz.ntmps58;go_wp2_with fail;go_quiet (fail);have hb1:=below_drewN hb0 nq;generalize w.drewN nq=w1 at *;go_wp2_with fail;refine (HJ.out _ hb1).mono ?_;rintro e w2 ⟨g2,t2,rfl,hA2,hj2,hb2⟩;go_wp2_with fail;go_ret;exact ⟨g2,t2,rfl,hA2,hj2,hb1.trans (hb2.mono hb1.size)⟩
  ·have zb:=fb.cells_ne;obtain ⟨_,_,c8,c9⟩:=ha.cell8;obtain ⟨d6,d7,_,_⟩:=hb.cell8;have ba:=fa.smBd (by omega);have bb:=fb.smBd (by omega);have HF:∀ W,Calls Tryz.prog 93 #[.agg #[.int .i64 a.sm.lc,.int .i64 a.sm.lh],.agg #[.int .i64 b.sm.fc,.int .i64 b.sm.fh]] W fun e w'=>e=.returned (.bool false)∧Below W.heap.size W w':=fun W=>by
    obtain ⟨_,⟨p,A0,ea,e2,e3⟩⟩:=fa.wf.ends;obtain ⟨⟨q,B0,eb,f2,f3⟩,_⟩:=fb.wf.ends;refine fits_no _ _ _ _ ?_ ba.lc bb.fc W;rw [ea,eb] at hm;have:=hm p q (by simp) rfl;rw [e2,e3,f2,f3];intro h;exact this ⟨h.1,by omega⟩
   clear ba bb hm;generalize a.sm=sa at *;generalize b.sm=sb at *;have hcur:=hb0;go_enter Tryz.func58,Tryz.ntmps58;go_wp2_with fail
   go_region_held3 (fun W=>W.cell? ⟨ga,0,none⟩=some (.int .i64 sa.cells)∧W.cell? ⟨ga,8,none⟩=some (.int .i64 sa.lc)∧W.cell? ⟨ga,9,none⟩=some (.int .i64 sa.lh)∧W.cell? ⟨gb,0,none⟩=some (.int .i64 sb.cells)∧W.cell? ⟨gb,6,none⟩=some (.int .i64 sb.fc)∧W.cell? ⟨gb,7,none⟩=some (.int .i64 sb.fh)) (first|exact ⟨c0,c8,c9,d0,d6,d7⟩|exact ⟨e0,e8,e9,f0,f6,f7⟩)
    (first
     | (go_at_call 93;refine (HF _).mono ?_;rintro e w1 ⟨rfl,hb1⟩;have hcur:Below w.heap.size w w1:=(by first|exact hcur.trans (hb1.mono hcur.size)|exact hcur.drew.trans (hb1.mono hcur.size));have e0:=(hcur.cell (p:=⟨ga,0,none⟩) lta).trans c0;have e8:=(hcur.cell (p:=⟨ga,8,none⟩) lta).trans c8;have e9:=(hcur.cell (p:=⟨ga,9,none⟩) lta).trans c9;have f0:=(hcur.cell (p:=⟨gb,0,none⟩) ltb).trans d0;have f6:=(hcur.cell (p:=⟨gb,6,none⟩) ltb).trans d6;have f7:=(hcur.cell (p:=⟨gb,7,none⟩) ltb).trans d7))
   all_goals
    go_wp2_with fail;refine (HJ.out _ hcur).mono ?_;rintro e w2 ⟨g2,t2,rfl,hA2,hj2,hb2⟩;go_wp2_with fail;go_ret;exact ⟨g2,t2,rfl,hA2,hj2,hcur.trans (hb2.mono hcur.size)⟩
end Go.Proofs.YtijpfbcippijoaaGreatDoor
