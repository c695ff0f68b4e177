import Derived.Test.YtmeciikfnbbllaaGreatDoorAl
import Derived.Test.YtmeciikfnbbllaaGreatDoorGr50
import Derived.Deep.MidRow
import Derived.Deep.WholeRow
import Derived.Deep.Cut
import Derived.Test.YtmeciikfnbbllaaGreatDoorXhH
import Derived.Test.YtmeciikfnbbllaaGreatDoorGr55
set_option maxHeartbeats 8000000
set_option maxRecDepth 100000
namespace Go.Proofs.YtmeciikfnbbllaaGreatDoor
open Go.RowKit Go.Lib
structure XOp where
 k:Int
 o1:OpV
 a1:Option Addr
 m1:Nat
 c1:Nat
 o2:OpV
 a2:Option Addr
 m2:Nat
 c2:Nat
 ra:Option Addr
 rm:Nat
 rc:Nat
 R:List OpM
 sa:Option Addr
 sm:Nat
 sc:Nat
 S:List OpM
 e:Bool
 n:Int
 m:Int
def xopF (x:XOp):List Value:=[.int .i64 x.k,.int .i64 x.o1.c,.int .i64 x.o1.n,.int .i64 x.o1.k,.int .i64 x.o1.p,.string x.o1.s,.slice x.a1 x.m1 x.c1,.int .i64 x.o1.tc,.int .i64 x.o1.tn,.bool x.o1.on,.int .i64 x.o2.c,.int .i64 x.o2.n,.int .i64 x.o2.k,.int .i64 x.o2.p,.string x.o2.s,.slice x.a2 x.m2 x.c2,.int .i64 x.o2.tc,.int .i64 x.o2.tn,.bool x.o2.on,.slice x.ra x.rm x.rc,.slice x.sa x.sm x.sc,.bool x.e,.int .i64 x.n,.int .i64 x.m]
theorem layXo:Lay xopF 24:=⟨fun _=>rfl,by decide,fun x u hu=>by
 simp only [xopF,List.mem_cons,List.not_mem_nil,or_false] at hu
 rcases hu with h|h|h|h|h|h|h|h|h|h|h|h|h|h|h|h|h|h|h|h|h|h|h|h<;>(subst h;rfl)⟩
theorem xopF_eq (x:XOp):∃ v1 v2 v3 v4 v5 v6 v7 v8 v9 v10 v11 v12 v13 v14 v15 v16 v17 v18 v19 v20 v21 v22 v23,xopF x=[.int .i64 x.k,v1,v2,v3,v4,v5,v6,v7,v8,v9,v10,v11,v12,v13,v14,v15,v16,v17,v18,v19,v20,v21,v22,v23]:=⟨_,_,_,_,_,_,_,_,_,_,_,_,_,_,_,_,_,_,_,_,_,_,_,rfl⟩
def OpOk (W:World) (x:OpM):Prop:=Sp.Rng W x.2.1 x.2.2.1 x.2.2.2 x.1.l∧x.2.2.1≤1048576∧x.1.s.size≤2097152
theorem OpOk.below {W W':World} {x:OpM} (h:OpOk W x) (hb:Below W.heap.size W W'):OpOk W' x:=⟨h.1.below hb,h.2⟩
structure XOk (W:World) (x:XOp):Prop where
 one:OpOk W (x.o1,(x.a1,x.m1,x.c1))
 two:OpOk W (x.o2,(x.a2,x.m2,x.c2))
 run:Rw opF 9 W x.ra x.rm x.rc x.R
 runs:∀ y∈x.R,OpOk W y
 oth:Rw opF 9 W x.sa x.sm x.sc x.S
 oths:∀ y∈x.S,OpOk W y
 few:x.rm≤1048576∧x.sm≤1048576
theorem XOk.below {W W':World} {x:XOp} (h:XOk W x) (hb:Below W.heap.size W W'):XOk W' x :=
 ⟨h.one.below hb,h.two.below hb,h.run.below hb,fun y hy=>(h.runs y hy).below hb,h.oth.below hb,fun y hy=>(h.oths y hy).below hb,h.few⟩
theorem box24 {W:World} {b:Nat} {T:TypeId} {u0 u1 u2 u3 u4 u5 u6 u7 u8 u9 u10 u11 u12 u13 u14 u15 u16 u17 u18 u19 u20 u21 u22 u23:Value} (h:W.heap[b]?=some (.cells #[u0,u1,u2,u3,u4,u5,u6,u7,u8,u9,u10,u11,u12,u13,u14,u15,u16,u17,u18,u19,u20,u21,u22,u23] T)) :
  W.cell? ⟨b,0,none⟩=some u0∧W.cell? ⟨b,1,none⟩=some u1∧W.cell? ⟨b,2,none⟩=some u2∧W.cell? ⟨b,3,none⟩=some u3∧W.cell? ⟨b,4,none⟩=some u4∧W.cell? ⟨b,5,none⟩=some u5∧W.cell? ⟨b,6,none⟩=some u6∧W.cell? ⟨b,7,none⟩=some u7∧W.cell? ⟨b,8,none⟩=some u8∧W.cell? ⟨b,9,none⟩=some u9∧W.cell? ⟨b,10,none⟩=some u10∧W.cell? ⟨b,11,none⟩=some u11∧W.cell? ⟨b,12,none⟩=some u12∧W.cell? ⟨b,13,none⟩=some u13∧W.cell? ⟨b,14,none⟩=some u14∧W.cell? ⟨b,15,none⟩=some u15∧W.cell? ⟨b,16,none⟩=some u16∧W.cell? ⟨b,17,none⟩=some u17∧W.cell? ⟨b,18,none⟩=some u18∧W.cell? ⟨b,19,none⟩=some u19∧W.cell? ⟨b,20,none⟩=some u20∧W.cell? ⟨b,21,none⟩=some u21∧W.cell? ⟨b,22,none⟩=some u22∧W.cell? ⟨b,23,none⟩=some u23:=by
 simp only [cH h];exact ⟨rfl,rfl,rfl,rfl,rfl,rfl,rfl,rfl,rfl,rfl,rfl,rfl,rfl,rfl,rfl,rfl,rfl,rfl,rfl,rfl,rfl,rfl,rfl,rfl⟩
theorem range_blockX {W:World} {b:Nat} {T:TypeId} {l:List Value} (h:W.heap[b]?=some (.cells l.toArray T)):W.rangeAt b 0 l:=fun j v hv=>by
 rw [cell_of_row W b (0+j) _ _ _ h,Nat.zero_add,List.getElem?_toArray];exact hv
theorem played_any {a:Option Addr} {n cap:Nat} {w:World} {L:List XOp} (h:Rw xopF 24 w a n cap L) (lo hi:Int)
  (H:∀ W,Below w.heap.size w W→∀ x∈L,lo≤x.k→x.k≤hi→Calls Tryz.prog 17 #[.agg (xopF x).toArray] W fun e w'=>e=.returned (.bool true)∧Below W.heap.size W w') :
  Calls Tryz.prog 12 #[.slice a n cap,.int .i64 lo,.int .i64 hi] w fun e w'=>e=.returned (.bool true)∧Below w.heap.size w w':=by
 have HH:Hid (∀ W,Below w.heap.size w W→∀ x∈L,lo≤x.k→x.k≤hi→Calls Tryz.prog 17 #[.agg (xopF x).toArray] W fun e w'=>e=.returned (.bool true)∧Below W.heap.size W w'):=H;have hl:=h.len;have hro:=h.room;have hn63:n≤9223372036854775807:=by simp only [maxLen] at hro;omega
 clear H hro;go_enter Tryz.func12,Tryz.ntmps12;go_wp2_with fail;go_loopw [7] (fun vi W=>∃ i:Nat,vi=.int .i64 (i:Int)∧i≤n∧Below w.heap.size w W) (fun vi _=>n-(RowKit.intOf vi).toNat)
 case atStart=>exact ⟨0,rfl,Nat.zero_le _,bE _ _⟩
 case round =>
  obtain ⟨i,rfl,hin,hH⟩:=hrel;by_cases hlt:i<n
  ·obtain ⟨g,off,x,rfl,hg,hx,hc⟩:=h.at i hlt;have HPL:Hid (∀ W,Below w.heap.size w W→lo≤x.k→x.k≤hi→Calls Tryz.prog 17 #[.agg (xopF x).toArray] W fun e w'=>e=.returned (.bool true)∧Below W.heap.size W w'):=fun W hb=>HH.out W hb x (List.mem_of_getElem? hx)
   have h1c:(Array.all ((xopF x).toArray) (fun v=>v.oneCell'))=true:=all_oneCell_toArray (layXo.one x);obtain ⟨v1,v2,v3,v4,v5,v6,v7,v8,v9,v10,v11,v12,v13,v14,v15,v16,v17,v18,v19,v20,v21,v22,v23,hv⟩:=xopF_eq x;generalize x.k=K at *;rw [hv] at HPL h1c hc;have HRG:Hid (wr.rangeAt g (off+i*24) [.int .i64 K,v1,v2,v3,v4,v5,v6,v7,v8,v9,v10,v11,v12,v13,v14,v15,v16,v17,v18,v19,v20,v21,v22,v23]):=fun j v hv=>(hH.cell (p:=⟨g,off+i*24+j,none⟩) hg).trans (hc j v hv)
   have H1C:Hid ((Array.all (#[.int .i64 K,v1,v2,v3,v4,v5,v6,v7,v8,v9,v10,v11,v12,v13,v14,v15,v16,v17,v18,v19,v20,v21,v22,v23]:Array Value) (fun v=>v.oneCell'))=true):=h1c;clear h1c hc hx hv HH h x;go_upto_region 5 with (first|refine wpList_load_mid rfl 45 _ rfl g (off+i*24) rfl [.int .i64 K,v1,v2,v3,v4,v5,v6,v7,v8,v9,v10,v11,v12,v13,v14,v15,v16,v17,v18,v19,v20,v21,v22,v23] _ HRG.out Tryz.underlying45 rfl (by kernel_rfl) ?_|(refine wpList_store_row rfl 45 _ _ rfl wr.heap.size #[.int .i64 K,v1,v2,v3,v4,v5,v6,v7,v8,v9,v10,v11,v12,v13,v14,v15,v16,v17,v18,v19,v20,v21,v22,v23] rfl rfl 45 _ (heap_alloc_last _ _) (by kernel_rfl) rfl H1C.out ?_;rw [World.setRow_alloc_new]))
   generalize hX1:wr.alloc (Obj.cells #[.int .i64 K,v1,v2,v3,v4,v5,v6,v7,v8,v9,v10,v11,v12,v13,v14,v15,v16,v17,v18,v19,v20,v21,v22,v23] 45)=X1;have hc1:Below wr.heap.size wr X1:=hX1▸(bE wr.heap.size wr).alloc (lR _) _;have hb1:X1.heap[wr.heap.size]?=some (.cells #[.int .i64 K,v1,v2,v3,v4,v5,v6,v7,v8,v9,v10,v11,v12,v13,v14,v15,v16,v17,v18,v19,v20,v21,v22,v23] 45):=hX1▸heap_alloc_new _ _;clear hX1;have hH1:=hH.trans (hc1.mono hH.size);have HBX:Hid (X1.rangeAt wr.heap.size 0 [.int .i64 K,v1,v2,v3,v4,v5,v6,v7,v8,v9,v10,v11,v12,v13,v14,v15,v16,v17,v18,v19,v20,v21,v22,v23]):=range_blockX hb1;have x0:X1.cell? ⟨wr.heap.size,0,none⟩=some (.int .i64 K):=by rw [cH hb1];rfl
   clear HRG H1C hc1 hb1;by_cases hK1:lo≤K
   ·by_cases hK2:K≤hi
    ·go_wp2_with (refine wpList_load_mid rfl 45 _ rfl wr.heap.size 0 rfl [.int .i64 K,v1,v2,v3,v4,v5,v6,v7,v8,v9,v10,v11,v12,v13,v14,v15,v16,v17,v18,v19,v20,v21,v22,v23] _ HBX.out Tryz.underlying45 rfl (by kernel_rfl) ?_);refine (HPL.out _ hH1 hK1 hK2).mono ?_;rintro e w2 ⟨rfl,hb2⟩;have hH2:=hH1.trans (hb2.mono hH1.size);clear hb2 HBX HPL x0 hH1;go_wp2_with fail;go_roundw
     case rel=>first|exact ⟨i+1,by go_num,by omega,hH2⟩|((repeat apply Exists.intro);exact ⟨⟨i+1,by go_num,by omega,hH2⟩,rfl⟩)
     case measure=>simp [RowKit.intOf];omega
    ·have t2:decide (K≤hi)=false:=decide_eq_false hK2;clear HBX HPL;go_wp2_with fail;go_roundw
     case rel=>first|exact ⟨i+1,by go_num,by omega,hH1⟩|((repeat apply Exists.intro);exact ⟨⟨i+1,by go_num,by omega,hH1⟩,rfl⟩)
     case measure=>simp [RowKit.intOf];omega
   ·have t1:decide (lo≤K)=false:=decide_eq_false hK1;clear HBX HPL;go_wp2_with fail;go_roundw
    case rel=>first|exact ⟨i+1,by go_num,by omega,hH1⟩|((repeat apply Exists.intro);exact ⟨⟨i+1,by go_num,by omega,hH1⟩,rfl⟩)
    case measure=>simp [RowKit.intOf];omega
  ·obtain rfl:i=n:=by omega
   clear HH h;go_wp2_with fail;go_ret;exact ⟨rfl,hH⟩
theorem gown_any {w:World} {a:Option Addr} {n cap:Nat} {L:List OpM} (h:Rw opF 9 w a n cap L) (hL:∀ x∈L,OpOk w x) :
  Calls Tryz.prog 49 #[.slice a n cap] w fun e w'=>e=.returned (.int .i64 (errs L))∧Below w.heap.size w w':=by
 have hln:=h.len;have hnb:n≤9223372036854775807:=by have:=h.room;simp only [maxLen] at this;omega
 have HC:Hid (∀ (x:OpM) (W:World),x∈L→Below w.heap.size w W→Calls Tryz.prog 61 #[opVal x.1 (.slice x.2.1 x.2.2.1 x.2.2.2)] W fun e w'=>e=.returned (.int .i64 (ownP x.1))∧Below W.heap.size W w'):=fun x W hx hb=>gOwn_any ((hL x hx).1.below hb) (hL x hx).2.2
 obtain ⟨res,hres⟩:∃ r,errs L=r:=⟨_,rfl⟩;rw [hres];have HRes:Hid (errs L=res):=hres;have HR:Hid (Rw opF 9 w a n cap L):=h;clear hres hL h;go_enter Tryz.func49,Tryz.ntmps49;go_wp2_with fail;go_loopw [3] (fun vi W=>∃ i:Nat,i≤n∧vi=.int .i64 (i:Int)∧Hid (errs (L.drop i)=res)∧Below w.heap.size w W) (fun vi _=>n-(RowKit.intOf vi).toNat)
 case atStart=>exact ⟨0,Nat.zero_le _,rfl,HRes.out,bE _ _⟩
 case round =>
  obtain ⟨i,hi,rfl,HE,hb⟩:=hrel;by_cases hlt:i<n
  ·obtain ⟨g,off,x,rfl,hg,hx,c0,c1,c2,c3,c4,c5,c6,c7,c8⟩:=HR.out.at9 hb i hlt;have HC2:=HC.out x wr (List.mem_of_getElem? hx) hb;have HE2:Hid ((if ownP x.1≠0 then ownP x.1 else errs (L.drop (i+1)))=res):=by
    have:=HE.out;rw [errs_drop L i x hx] at this;exact this
   obtain ⟨⟨c,n1,k,p,s,l,tc,tn,on⟩,a1,m1,p1⟩:=x;generalize ownP ⟨c,n1,k,p,s,l,tc,tn,on⟩=z at *;simp only [opVal] at *;clear HE hx HC;go_wp2_with fail;refine HC2.mono ?_;rintro e w2 ⟨rfl,hb2⟩;have hB2:=hb.trans (hb2.mono hb.size);clear hb2 HC2 c0 c1 c2 c3 c4 c5 c6 c7 c8;by_cases hz:z=0
   ·subst hz;have HE3:Hid (errs (L.drop (i+1))=res):=by
     have:=HE2.out
     rwa [if_neg (by simp)] at this
    clear HE2;go_wp2_with fail;go_roundw
    case rel=>exact ⟨i+1,by omega,by go_num,HE3,hB2⟩
    case measure=>simp [RowKit.intOf];omega
   ·have hr:z=res:=by
     have:=HE2.out
     rwa [if_pos hz] at this
    subst hr;have t1:(z==0)=false:=nB hz;have t2:(z != 0)=true:=by simp [bne,t1]
    have t3:decide (z=0)=false:=decide_eq_false hz;clear HE2;go_wp2_with fail;go_ret;exact ⟨rfl,hB2⟩
  ·obtain rfl:i=n:=by omega
   have hr:0=res:=by
    have:=HE.out;rw [List.drop_eq_nil_of_le (by omega)] at this;exact this
   subst hr;clear HE HC HR;go_wp2_with fail;go_ret;exact ⟨rfl,hb⟩
theorem gInclude_any {o o2:OpV} {ear:Bool} {a:Option Addr} {m cap:Nat} {b:Option Addr} {m2 cap2:Nat} {w:World} (h1:OpOk w (o,(a,m,cap))) (h2:OpOk w (o2,(b,m2,cap2))) :
  Calls Tryz.prog 27 #[opVal o (.slice a m cap),opVal o2 (.slice b m2 cap2),.bool ear] w fun e w'=>Ans w (xInclude o o2 ear) e w':=by
 have HE:Hid (∀ (W:World) (g:Nat),Below w.heap.size w W→W.heap[g]?=some (.cells (opF (o,(a,m,cap))++opF (o2,(b,m2,cap2))).toArray 33)→Calls Tryz.prog 49 #[.slice (some ⟨g,0,none⟩) 2 2] W fun e w'=>e=.returned (.int .i64 (firstErr [o,o2]))∧Below W.heap.size W w'):=fun W g hb hg=>gown_any (L:=[(o,(a,m,cap)),(o2,(b,m2,cap2))]) (two_ops hg) (fun x hx=>by
  simp at hx
  rcases hx with rfl|rfl
  ·exact h1.below hb
  ·exact h2.below hb)
 have HI:Hid (firstErr [o,o2]=0→∀ (W:World),Below w.heap.size w W→Calls Tryz.prog 50 #[opVal o (.slice a m cap),opVal o2 (.slice b m2 cap2),.bool ear] W fun e w'=>Ans W (inclP o o2 ear) e w'):=fun h0 W hb=>include_any (h1.1.below hb) (by have:=h1.2.1;simp only at this;omega) h1.2.2 h2.2.2 (right_of (first2 h0).1) (right_of (first2 h0).2)
 obtain ⟨q,hq⟩:∃ q,xInclude o o2 ear=q:=⟨_,rfl⟩;rw [hq];unfold xInclude at hq;generalize firstErr [o,o2]=z at *;generalize inclP o o2 ear=tq at *;simp only [opF,List.cons_append,List.nil_append] at HE;clear h1 h2;obtain ⟨⟨c3,n3,k3,p3,s3,l3,tc3,tn3,on3⟩,e3⟩:=tq;obtain ⟨c,n,k,p,s,l,tc,tn,on⟩:=o;obtain ⟨c2,n2,k2,p2,s2,l2,tc2,tn2,on2⟩:=o2;unfold Ans;simp only [opVal] at *;unfold Ans at HI;simp only [opVal] at HI;obtain ⟨W0,hW0⟩:∃ W0,((w.alloc (Obj.cells #[.int .i64 c,.int .i64 n,.int .i64 k,.int .i64 p,.string s,.slice a m cap,.int .i64 tc,.int .i64 tn,.bool on] 33)).alloc (Obj.cells #[.int .i64 c2,.int .i64 n2,.int .i64 k2,.int .i64 p2,.string s2,.slice b m2 cap2,.int .i64 tc2,.int .i64 tn2,.bool on2] 33)).alloc (Obj.cells #[.int .i64 0,.int .i64 0,.int .i64 0,.int .i64 0,.string ⟨#[]⟩,.slice none 0 0,.int .i64 0,.int .i64 0,.bool false] 33)=W0:=⟨_,rfl⟩;have hX:W0.heap[w.heap.size]?=some (Obj.cells #[.int .i64 c,.int .i64 n,.int .i64 k,.int .i64 p,.string s,.slice a m cap,.int .i64 tc,.int .i64 tn,.bool on] 33):=by rw [← hW0];exact (Below.heap_alloc _ _ _ (by simp;omega)).trans ((Below.heap_alloc _ _ _ (by simp)).trans (heap_alloc_new _ _))
 have hY:W0.heap[w.heap.size+1]?=some (Obj.cells #[.int .i64 c2,.int .i64 n2,.int .i64 k2,.int .i64 p2,.string s2,.slice b m2 cap2,.int .i64 tc2,.int .i64 tn2,.bool on2] 33):=by rw [← hW0];exact (Below.heap_alloc _ _ _ (by simp)).trans (alloc_last _ _ _ (by simp))
 have hZ:W0.heap[w.heap.size+2]?=some (Obj.cells #[.int .i64 0,.int .i64 0,.int .i64 0,.int .i64 0,.string ⟨#[]⟩,.slice none 0 0,.int .i64 0,.int .i64 0,.bool false] 33):=by rw [← hW0];exact alloc_last _ _ _ (by simp)
 have hB0:Below w.heap.size w W0:=by rw [← hW0];exact (((bE w.heap.size w).alloc (lR _) _).alloc (by simp) _).alloc (by simp;omega) _
 have alt:w.heap.size+2<W0.heap.size:=(gA hZ);obtain ⟨ak0,ak1,ak2,ak3,ak4,ak5,ak6,ak7,ak8⟩:=box9 hX;obtain ⟨bk0,bk1,bk2,bk3,bk4,bk5,bk6,bk7,bk8⟩:=box9 hY;obtain ⟨zk0,zk1,zk2,zk3,zk4,zk5,zk6,zk7,zk8⟩:=box9 hZ;obtain ⟨zz0,zz1,zz2,zz3,zz4,zz5,zz6,zz7,zz8⟩:=wr9 hZ;obtain ⟨W1,hW1⟩:∃ W1,W0.alloc (Obj.cells #[.int .i64 c,.int .i64 n,.int .i64 k,.int .i64 p,.string s,.slice a m cap,.int .i64 tc,.int .i64 tn,.bool on,.int .i64 c2,.int .i64 n2,.int .i64 k2,.int .i64 p2,.string s2,.slice b m2 cap2,.int .i64 tc2,.int .i64 tn2,.bool on2] 33)=W1:=⟨_,rfl⟩;have hT:W1.heap[W0.heap.size]?=some (Obj.cells #[.int .i64 c,.int .i64 n,.int .i64 k,.int .i64 p,.string s,.slice a m cap,.int .i64 tc,.int .i64 tn,.bool on,.int .i64 c2,.int .i64 n2,.int .i64 k2,.int .i64 p2,.string s2,.slice b m2 cap2,.int .i64 tc2,.int .i64 tn2,.bool on2] 33):=by rw [← hW1];exact heap_alloc_new _ _
 have h01:Below W0.heap.size W0 W1:=by rw [← hW1];exact (bE _ _).alloc (lR _) _
 go_enter Tryz.func27,Tryz.ntmps27;go_wp2_with fail;refine (HE.out W1 _ (hB0.trans (h01.mono hB0.size)) hT).mono ?_;rintro e v1 ⟨rfl,hb0⟩;have hb1:Below W0.heap.size W0 v1:=h01.trans (hb0.mono h01.size);clear hb0 h01 hT hW1 HE;have hX1:=(hb1.block _ (by omega)).trans hX;have hY1:=(hb1.block _ (by omega)).trans hY;have hZ1:=(hb1.block _ (by omega)).trans hZ;have hB1:=hB0.trans (hb1.mono hB0.size);have alt1:w.heap.size+2<v1.heap.size:=(gA hZ1);clear hb1 hX hY hZ hB0 alt ak0 ak1 ak2 ak3 ak4 ak5 ak6 ak7 ak8 bk0 bk1 bk2 bk3 bk4 bk5 bk6 bk7 bk8 zk0 zk1 zk2 zk3 zk4 zk5 zk6 zk7 zk8 zz0 zz1 zz2 zz3 zz4 zz5 zz6 zz7 zz8 hW0;obtain ⟨ak0,ak1,ak2,ak3,ak4,ak5,ak6,ak7,ak8⟩:=box9 hX1;obtain ⟨bk0,bk1,bk2,bk3,bk4,bk5,bk6,bk7,bk8⟩:=box9 hY1;obtain ⟨zk0,zk1,zk2,zk3,zk4,zk5,zk6,zk7,zk8⟩:=box9 hZ1;obtain ⟨zz0,zz1,zz2,zz3,zz4,zz5,zz6,zz7,zz8⟩:=wr9 hZ1;by_cases hz:z=0
 ·subst hz;rw [if_neg (by simp)] at hq;subst hq;have HI2:=HI.out rfl v1 hB1;clear HI;go_wp2_with fail;refine HI2.mono ?_;rintro e v2 ⟨va,vm,vc,rfl,ho2,hb2⟩;have HO2:Hid (OwnF rangeV 2 94 v2 v1.heap.size (.slice va vm vc) l3):=ho2;have hv1:w.heap.size+2<v1.heap.size:=alt1;clear ho2 HI2;have hX2:=(hb2.block _ (by omega)).trans hX1;have hY2:=(hb2.block _ (by omega)).trans hY1;have hZ2:=(hb2.block _ (by omega)).trans hZ1;have hB2:=hB1.trans (hb2.mono hB1.size);have alt2:w.heap.size+2<v2.heap.size:=(gA hZ2);clear hb2 hX1 hY1 hZ1 hB1 alt1 ak0 ak1 ak2 ak3 ak4 ak5 ak6 ak7 ak8 bk0 bk1 bk2 bk3 bk4 bk5 bk6 bk7 bk8 zk0 zk1 zk2 zk3 zk4 zk5 zk6 zk7 zk8 zz0 zz1 zz2 zz3 zz4 zz5 zz6 zz7 zz8 ;obtain ⟨ak0,ak1,ak2,ak3,ak4,ak5,ak6,ak7,ak8⟩:=box9 hX2;obtain ⟨bk0,bk1,bk2,bk3,bk4,bk5,bk6,bk7,bk8⟩:=box9 hY2;obtain ⟨zk0,zk1,zk2,zk3,zk4,zk5,zk6,zk7,zk8⟩:=box9 hZ2;obtain ⟨zz0,zz1,zz2,zz3,zz4,zz5,zz6,zz7,zz8⟩:=wr9 hZ2;obtain ⟨W9,e9,hx9,hB9,hK9⟩:=store9 hZ2 hB2 (by omega) (.int .i64 c3) (.int .i64 n3) (.int .i64 k3) (.int .i64 p3) (.string s3) (.slice va vm vc) (.int .i64 tc3) (.int .i64 tn3) (.bool on3);obtain ⟨r0,r1,r2,r3,r4,r5,r6,r7,r8⟩:=box9 hx9;have HO9:Hid (OwnF rangeV 2 94 W9 w.heap.size (.slice va vm vc) l3):=(hK9.own HO2.out (by omega)).mono (by omega);clear HO2;go_wp2_with fail
  try rw [e9]
  refine bodyPost_ret (v:=.tuple #[.agg #[.int .i64 c3,.int .i64 n3,.int .i64 k3,.int .i64 p3,.string s3,.slice va vm vc,.int .i64 tc3,.int .i64 tn3,.bool on3],.int .i64 e3]) (by simp [results,Tryz.results27,go_sem,r0,r1,r2,r3,r4,r5,r6,r7,r8]) rfl ⟨va,vm,vc,rfl,HO9.out,hB9⟩
 ·rw [if_pos hz] at hq;subst hq;have t1:(z==0)=false:=nB hz;have t2:(z != 0)=true:=by simp [bne,t1]
  have t3:decide (z=0)=false:=decide_eq_false hz;clear HI;obtain ⟨W9,e9,hx9,hB9,hK9⟩:=store9 hZ1 hB1 (by omega) (.int .i64 0) (.int .i64 0) (.int .i64 0) (.int .i64 0) (.string ⟨#[]⟩) (.slice none 0 0) (.int .i64 0) (.int .i64 0) (.bool false);obtain ⟨r0,r1,r2,r3,r4,r5,r6,r7,r8⟩:=box9 hx9;go_wp2_with fail
  try rw [e9]
  refine bodyPost_ret (v:=.tuple #[.agg #[.int .i64 0,.int .i64 0,.int .i64 0,.int .i64 0,.string ⟨#[]⟩,.slice none 0 0,.int .i64 0,.int .i64 0,.bool false],.int .i64 z]) (by simp [results,Tryz.results27,go_sem,r0,r1,r2,r3,r4,r5,r6,r7,r8]) rfl ⟨none,0,0,rfl,ownF_nil _ _,hB9⟩
theorem exclude_clash {o o2:OpV} {a:Option Addr} {m cap:Nat} {b:Option Addr} {m2 cap2:Nat} {w:World} (hcl:clashP o o2=true):Calls Tryz.prog 52 #[opVal o (.slice a m cap),opVal o2 (.slice b m2 cap2)] w fun e w'=>Ans w (op0,50) e w':=by
 have HIS:Hid (∀ W:World,Calls Tryz.prog 74 #[.agg #[.int .i64 o.c,.int .i64 o.n],.agg #[.int .i64 o2.c,.int .i64 o2.n]] W fun e w'=>e=.returned (.bool true)∧Below W.heap.size W w'):=fun W=>by
  have:=is_anyX o.c o.n o2.c o2.n W;rw [show isB o.c o.n o2.c o2.n=true from hcl] at this;exact this
 clear hcl;obtain ⟨c,n,k,p,s,l,tc,tn,on⟩:=o;obtain ⟨c2,n2,k2,p2,s2,l2,tc2,tn2,on2⟩:=o2;unfold Ans;simp only [opVal] at *;obtain ⟨W0,hW0⟩:∃ W0,((w.alloc (Obj.cells #[.int .i64 c,.int .i64 n,.int .i64 k,.int .i64 p,.string s,.slice a m cap,.int .i64 tc,.int .i64 tn,.bool on] 33)).alloc (Obj.cells #[.int .i64 c2,.int .i64 n2,.int .i64 k2,.int .i64 p2,.string s2,.slice b m2 cap2,.int .i64 tc2,.int .i64 tn2,.bool on2] 33)).alloc (Obj.cells #[.int .i64 0,.int .i64 0,.int .i64 0,.int .i64 0,.string ⟨#[]⟩,.slice none 0 0,.int .i64 0,.int .i64 0,.bool false] 33)=W0:=⟨_,rfl⟩;have hX:W0.heap[w.heap.size]?=some (Obj.cells #[.int .i64 c,.int .i64 n,.int .i64 k,.int .i64 p,.string s,.slice a m cap,.int .i64 tc,.int .i64 tn,.bool on] 33):=by rw [← hW0];exact (Below.heap_alloc _ _ _ (by simp;omega)).trans ((Below.heap_alloc _ _ _ (by simp)).trans (heap_alloc_new _ _))
 have hY:W0.heap[w.heap.size+1]?=some (Obj.cells #[.int .i64 c2,.int .i64 n2,.int .i64 k2,.int .i64 p2,.string s2,.slice b m2 cap2,.int .i64 tc2,.int .i64 tn2,.bool on2] 33):=by rw [← hW0];exact (Below.heap_alloc _ _ _ (by simp)).trans (alloc_last _ _ _ (by simp))
 have hZ:W0.heap[w.heap.size+2]?=some (Obj.cells #[.int .i64 0,.int .i64 0,.int .i64 0,.int .i64 0,.string ⟨#[]⟩,.slice none 0 0,.int .i64 0,.int .i64 0,.bool false] 33):=by rw [← hW0];exact alloc_last _ _ _ (by simp)
 have hB0:Below w.heap.size w W0:=by rw [← hW0];exact (((bE w.heap.size w).alloc (lR _) _).alloc (by simp) _).alloc (by simp;omega) _
 have alt:w.heap.size+2<W0.heap.size:=(gA hZ);obtain ⟨ak0,ak1,ak2,ak3,ak4,ak5,ak6,ak7,ak8⟩:=box9 hX;obtain ⟨bk0,bk1,bk2,bk3,bk4,bk5,bk6,bk7,bk8⟩:=box9 hY;obtain ⟨zk0,zk1,zk2,zk3,zk4,zk5,zk6,zk7,zk8⟩:=box9 hZ;obtain ⟨zz0,zz1,zz2,zz3,zz4,zz5,zz6,zz7,zz8⟩:=wr9 hZ;go_enter Tryz.func52,Tryz.ntmps52;go_wp2_with fail;refine (HIS.out _).mono ?_;rintro e v1 ⟨rfl,hb1⟩;have hX1:=(hb1.block _ (by omega)).trans hX;have hY1:=(hb1.block _ (by omega)).trans hY;have hZ1:=(hb1.block _ (by omega)).trans hZ;have hB1:=hB0.trans (hb1.mono hB0.size);have alt1:w.heap.size+2<v1.heap.size:=(gA hZ1);clear hb1 hX hY hZ hB0 alt ak0 ak1 ak2 ak3 ak4 ak5 ak6 ak7 ak8 bk0 bk1 bk2 bk3 bk4 bk5 bk6 bk7 bk8 zk0 zk1 zk2 zk3 zk4 zk5 zk6 zk7 zk8 zz0 zz1 zz2 zz3 zz4 zz5 zz6 zz7 zz8 HIS hW0;obtain ⟨ak0,ak1,ak2,ak3,ak4,ak5,ak6,ak7,ak8⟩:=box9 hX1;obtain ⟨bk0,bk1,bk2,bk3,bk4,bk5,bk6,bk7,bk8⟩:=box9 hY1;obtain ⟨zk0,zk1,zk2,zk3,zk4,zk5,zk6,zk7,zk8⟩:=box9 hZ1;obtain ⟨zz0,zz1,zz2,zz3,zz4,zz5,zz6,zz7,zz8⟩:=wr9 hZ1;obtain ⟨W9,e9,hx9,hB9,hK9⟩:=store9 hZ1 hB1 (by omega) (.int .i64 0) (.int .i64 0) (.int .i64 0) (.int .i64 0) (.string ⟨#[]⟩) (.slice none 0 0) (.int .i64 0) (.int .i64 0) (.bool false);obtain ⟨r0,r1,r2,r3,r4,r5,r6,r7,r8⟩:=box9 hx9;go_wp2_with fail
 try rw [e9]
 refine bodyPost_ret (v:=.tuple #[.agg #[.int .i64 0,.int .i64 0,.int .i64 0,.int .i64 0,.string ⟨#[]⟩,.slice none 0 0,.int .i64 0,.int .i64 0,.bool false],.int .i64 50]) (by simp [results,Tryz.results52,go_sem,r0,r1,r2,r3,r4,r5,r6,r7,r8]) rfl ⟨none,0,0,rfl,ownF_nil _ _,hB9⟩
theorem exclude_target {o o2:OpV} {a:Option Addr} {m cap:Nat} {b:Option Addr} {m2 cap2:Nat} {w:World} (hcl:clashP o o2=false) (hk:o.k=4) (htg:isB o.tc o.tn o2.c o2.n=true):Calls Tryz.prog 52 #[opVal o (.slice a m cap),opVal o2 (.slice b m2 cap2)] w fun e w'=>Ans w (op0,23) e w':=by
 obtain ⟨tg,htt⟩:∃ tg,true=tg:=⟨_,rfl⟩;rw [htt] at htg;have HIS:Hid (∀ W:World,Calls Tryz.prog 74 #[.agg #[.int .i64 o.c,.int .i64 o.n],.agg #[.int .i64 o2.c,.int .i64 o2.n]] W fun e w'=>e=.returned (.bool false)∧Below W.heap.size W w'):=fun W=>by
  have:=is_anyX o.c o.n o2.c o2.n W;rw [show isB o.c o.n o2.c o2.n=false from hcl] at this;exact this
 have HIT:Hid (∀ W:World,Calls Tryz.prog 74 #[.agg #[.int .i64 o.tc,.int .i64 o.tn],.agg #[.int .i64 o2.c,.int .i64 o2.n]] W fun e w'=>e=.returned (.bool tg)∧Below W.heap.size W w'):=fun W=>by
  have:=is_anyX o.tc o.tn o2.c o2.n W;rw [htg] at this;exact this
 clear hcl htg;subst htt;obtain ⟨c,n,k,p,s,l,tc,tn,on⟩:=o;obtain ⟨c2,n2,k2,p2,s2,l2,tc2,tn2,on2⟩:=o2;unfold Ans;simp only [opVal] at *;subst hk;obtain ⟨W0,hW0⟩:∃ W0,((w.alloc (Obj.cells #[.int .i64 c,.int .i64 n,.int .i64 4,.int .i64 p,.string s,.slice a m cap,.int .i64 tc,.int .i64 tn,.bool on] 33)).alloc (Obj.cells #[.int .i64 c2,.int .i64 n2,.int .i64 k2,.int .i64 p2,.string s2,.slice b m2 cap2,.int .i64 tc2,.int .i64 tn2,.bool on2] 33)).alloc (Obj.cells #[.int .i64 0,.int .i64 0,.int .i64 0,.int .i64 0,.string ⟨#[]⟩,.slice none 0 0,.int .i64 0,.int .i64 0,.bool false] 33)=W0:=⟨_,rfl⟩;have hX:W0.heap[w.heap.size]?=some (Obj.cells #[.int .i64 c,.int .i64 n,.int .i64 4,.int .i64 p,.string s,.slice a m cap,.int .i64 tc,.int .i64 tn,.bool on] 33):=by rw [← hW0];exact (Below.heap_alloc _ _ _ (by simp;omega)).trans ((Below.heap_alloc _ _ _ (by simp)).trans (heap_alloc_new _ _))
 have hY:W0.heap[w.heap.size+1]?=some (Obj.cells #[.int .i64 c2,.int .i64 n2,.int .i64 k2,.int .i64 p2,.string s2,.slice b m2 cap2,.int .i64 tc2,.int .i64 tn2,.bool on2] 33):=by rw [← hW0];exact (Below.heap_alloc _ _ _ (by simp)).trans (alloc_last _ _ _ (by simp))
 have hZ:W0.heap[w.heap.size+2]?=some (Obj.cells #[.int .i64 0,.int .i64 0,.int .i64 0,.int .i64 0,.string ⟨#[]⟩,.slice none 0 0,.int .i64 0,.int .i64 0,.bool false] 33):=by rw [← hW0];exact alloc_last _ _ _ (by simp)
 have hB0:Below w.heap.size w W0:=by rw [← hW0];exact (((bE w.heap.size w).alloc (lR _) _).alloc (by simp) _).alloc (by simp;omega) _
 have alt:w.heap.size+2<W0.heap.size:=(gA hZ);obtain ⟨ak0,ak1,ak2,ak3,ak4,ak5,ak6,ak7,ak8⟩:=box9 hX;obtain ⟨bk0,bk1,bk2,bk3,bk4,bk5,bk6,bk7,bk8⟩:=box9 hY;obtain ⟨zk0,zk1,zk2,zk3,zk4,zk5,zk6,zk7,zk8⟩:=box9 hZ;obtain ⟨zz0,zz1,zz2,zz3,zz4,zz5,zz6,zz7,zz8⟩:=wr9 hZ;go_enter Tryz.func52,Tryz.ntmps52;go_wp2_with fail;refine (HIS.out _).mono ?_;rintro e v1 ⟨rfl,hb1⟩;have hX1:=(hb1.block _ (by omega)).trans hX;have hY1:=(hb1.block _ (by omega)).trans hY;have hZ1:=(hb1.block _ (by omega)).trans hZ;have hB1:=hB0.trans (hb1.mono hB0.size);have alt1:w.heap.size+2<v1.heap.size:=(gA hZ1);clear hb1 hX hY hZ hB0 alt ak0 ak1 ak2 ak3 ak4 ak5 ak6 ak7 ak8 bk0 bk1 bk2 bk3 bk4 bk5 bk6 bk7 bk8 zk0 zk1 zk2 zk3 zk4 zk5 zk6 zk7 zk8 zz0 zz1 zz2 zz3 zz4 zz5 zz6 zz7 zz8 HIS hW0;obtain ⟨ak0,ak1,ak2,ak3,ak4,ak5,ak6,ak7,ak8⟩:=box9 hX1;obtain ⟨bk0,bk1,bk2,bk3,bk4,bk5,bk6,bk7,bk8⟩:=box9 hY1;obtain ⟨zk0,zk1,zk2,zk3,zk4,zk5,zk6,zk7,zk8⟩:=box9 hZ1;obtain ⟨zz0,zz1,zz2,zz3,zz4,zz5,zz6,zz7,zz8⟩:=wr9 hZ1;go_wp2_with fail;refine (HIT.out _).mono ?_;rintro e v2 ⟨rfl,hb2⟩;have hX2:=(hb2.block _ (by omega)).trans hX1;have hY2:=(hb2.block _ (by omega)).trans hY1;have hZ2:=(hb2.block _ (by omega)).trans hZ1;have hB2:=hB1.trans (hb2.mono hB1.size);have alt2:w.heap.size+2<v2.heap.size:=(gA hZ2);clear hb2 hX1 hY1 hZ1 hB1 alt1 ak0 ak1 ak2 ak3 ak4 ak5 ak6 ak7 ak8 bk0 bk1 bk2 bk3 bk4 bk5 bk6 bk7 bk8 zk0 zk1 zk2 zk3 zk4 zk5 zk6 zk7 zk8 zz0 zz1 zz2 zz3 zz4 zz5 zz6 zz7 zz8 HIT;obtain ⟨ak0,ak1,ak2,ak3,ak4,ak5,ak6,ak7,ak8⟩:=box9 hX2;obtain ⟨bk0,bk1,bk2,bk3,bk4,bk5,bk6,bk7,bk8⟩:=box9 hY2;obtain ⟨zk0,zk1,zk2,zk3,zk4,zk5,zk6,zk7,zk8⟩:=box9 hZ2;obtain ⟨zz0,zz1,zz2,zz3,zz4,zz5,zz6,zz7,zz8⟩:=wr9 hZ2;obtain ⟨W9,e9,hx9,hB9,hK9⟩:=store9 hZ2 hB2 (by omega) (.int .i64 0) (.int .i64 0) (.int .i64 0) (.int .i64 0) (.string ⟨#[]⟩) (.slice none 0 0) (.int .i64 0) (.int .i64 0) (.bool false);obtain ⟨r0,r1,r2,r3,r4,r5,r6,r7,r8⟩:=box9 hx9;go_wp2_with fail
 try rw [e9]
 refine bodyPost_ret (v:=.tuple #[.agg #[.int .i64 0,.int .i64 0,.int .i64 0,.int .i64 0,.string ⟨#[]⟩,.slice none 0 0,.int .i64 0,.int .i64 0,.bool false],.int .i64 23]) (by simp [results,Tryz.results52,go_sem,r0,r1,r2,r3,r4,r5,r6,r7,r8]) rfl ⟨none,0,0,rfl,ownF_nil _ _,hB9⟩
theorem exclude_same {o o2:OpV} {a:Option Addr} {m cap:Nat} {b:Option Addr} {m2 cap2:Nat} {w:World} (hR:Sp.Rng w a m cap o.l) (hm:m≤1000000000) (hcl:clashP o o2=false) (tg:Bool) (htg:isB o.tc o.tn o2.c o2.n=tg) (hk:(o.k=4∧tg=false)∨(o.k≠4∧o2.k≠1)):Calls Tryz.prog 52 #[opVal o (.slice a m cap),opVal o2 (.slice b m2 cap2)] w fun e w'=>Ans w (o,0) e w':=by
 have HIS:Hid (∀ W:World,Calls Tryz.prog 74 #[.agg #[.int .i64 o.c,.int .i64 o.n],.agg #[.int .i64 o2.c,.int .i64 o2.n]] W fun e w'=>e=.returned (.bool false)∧Below W.heap.size W w'):=fun W=>by
  have:=is_anyX o.c o.n o2.c o2.n W;rw [show isB o.c o.n o2.c o2.n=false from hcl] at this;exact this
 have HIT:Hid (∀ W:World,Calls Tryz.prog 74 #[.agg #[.int .i64 o.tc,.int .i64 o.tn],.agg #[.int .i64 o2.c,.int .i64 o2.n]] W fun e w'=>e=.returned (.bool tg)∧Below W.heap.size W w'):=fun W=>by
  have:=is_anyX o.tc o.tn o2.c o2.n W;rw [htg] at this;exact this
 have HC:Hid (∀ W,Below w.heap.size w W→Calls Tryz.prog 26 #[opVal o (.slice a m cap)] W fun e w'=>∃ a' cap',e=.returned (opVal o (.slice a' m cap'))∧OwnF rangeV 2 94 w' W.heap.size (.slice a' m cap') o.l∧Below W.heap.size W w'):=fun W hb=>copy_any (hR.below hb) hm
 clear hcl hR hm htg;obtain ⟨c,n,k,p,s,l,tc,tn,on⟩:=o;obtain ⟨c2,n2,k2,p2,s2,l2,tc2,tn2,on2⟩:=o2;unfold Ans;simp only [opVal] at *;obtain ⟨W0,hW0⟩:∃ W0,((w.alloc (Obj.cells #[.int .i64 c,.int .i64 n,.int .i64 k,.int .i64 p,.string s,.slice a m cap,.int .i64 tc,.int .i64 tn,.bool on] 33)).alloc (Obj.cells #[.int .i64 c2,.int .i64 n2,.int .i64 k2,.int .i64 p2,.string s2,.slice b m2 cap2,.int .i64 tc2,.int .i64 tn2,.bool on2] 33)).alloc (Obj.cells #[.int .i64 0,.int .i64 0,.int .i64 0,.int .i64 0,.string ⟨#[]⟩,.slice none 0 0,.int .i64 0,.int .i64 0,.bool false] 33)=W0:=⟨_,rfl⟩;have hX:W0.heap[w.heap.size]?=some (Obj.cells #[.int .i64 c,.int .i64 n,.int .i64 k,.int .i64 p,.string s,.slice a m cap,.int .i64 tc,.int .i64 tn,.bool on] 33):=by rw [← hW0];exact (Below.heap_alloc _ _ _ (by simp;omega)).trans ((Below.heap_alloc _ _ _ (by simp)).trans (heap_alloc_new _ _))
 have hY:W0.heap[w.heap.size+1]?=some (Obj.cells #[.int .i64 c2,.int .i64 n2,.int .i64 k2,.int .i64 p2,.string s2,.slice b m2 cap2,.int .i64 tc2,.int .i64 tn2,.bool on2] 33):=by rw [← hW0];exact (Below.heap_alloc _ _ _ (by simp)).trans (alloc_last _ _ _ (by simp))
 have hZ:W0.heap[w.heap.size+2]?=some (Obj.cells #[.int .i64 0,.int .i64 0,.int .i64 0,.int .i64 0,.string ⟨#[]⟩,.slice none 0 0,.int .i64 0,.int .i64 0,.bool false] 33):=by rw [← hW0];exact alloc_last _ _ _ (by simp)
 have hB0:Below w.heap.size w W0:=by rw [← hW0];exact (((bE w.heap.size w).alloc (lR _) _).alloc (by simp) _).alloc (by simp;omega) _
 have alt:w.heap.size+2<W0.heap.size:=(gA hZ);obtain ⟨ak0,ak1,ak2,ak3,ak4,ak5,ak6,ak7,ak8⟩:=box9 hX;obtain ⟨bk0,bk1,bk2,bk3,bk4,bk5,bk6,bk7,bk8⟩:=box9 hY;obtain ⟨zk0,zk1,zk2,zk3,zk4,zk5,zk6,zk7,zk8⟩:=box9 hZ;obtain ⟨zz0,zz1,zz2,zz3,zz4,zz5,zz6,zz7,zz8⟩:=wr9 hZ;go_enter Tryz.func52,Tryz.ntmps52;go_wp2_with fail;refine (HIS.out _).mono ?_;rintro e v1 ⟨rfl,hb1⟩;have hX1:=(hb1.block _ (by omega)).trans hX;have hY1:=(hb1.block _ (by omega)).trans hY;have hZ1:=(hb1.block _ (by omega)).trans hZ;have hB1:=hB0.trans (hb1.mono hB0.size);have alt1:w.heap.size+2<v1.heap.size:=(gA hZ1);clear hb1 hX hY hZ hB0 alt ak0 ak1 ak2 ak3 ak4 ak5 ak6 ak7 ak8 bk0 bk1 bk2 bk3 bk4 bk5 bk6 bk7 bk8 zk0 zk1 zk2 zk3 zk4 zk5 zk6 zk7 zk8 zz0 zz1 zz2 zz3 zz4 zz5 zz6 zz7 zz8 HIS hW0;obtain ⟨ak0,ak1,ak2,ak3,ak4,ak5,ak6,ak7,ak8⟩:=box9 hX1;obtain ⟨bk0,bk1,bk2,bk3,bk4,bk5,bk6,bk7,bk8⟩:=box9 hY1;obtain ⟨zk0,zk1,zk2,zk3,zk4,zk5,zk6,zk7,zk8⟩:=box9 hZ1;obtain ⟨zz0,zz1,zz2,zz3,zz4,zz5,zz6,zz7,zz8⟩:=wr9 hZ1;go_wp2_with fail;refine (HIT.out _).mono ?_;rintro e v2 ⟨rfl,hb2⟩;have hX2:=(hb2.block _ (by omega)).trans hX1;have hY2:=(hb2.block _ (by omega)).trans hY1;have hZ2:=(hb2.block _ (by omega)).trans hZ1;have hB2:=hB1.trans (hb2.mono hB1.size);have alt2:w.heap.size+2<v2.heap.size:=(gA hZ2);clear hb2 hX1 hY1 hZ1 hB1 alt1 ak0 ak1 ak2 ak3 ak4 ak5 ak6 ak7 ak8 bk0 bk1 bk2 bk3 bk4 bk5 bk6 bk7 bk8 zk0 zk1 zk2 zk3 zk4 zk5 zk6 zk7 zk8 zz0 zz1 zz2 zz3 zz4 zz5 zz6 zz7 zz8 HIT;obtain ⟨ak0,ak1,ak2,ak3,ak4,ak5,ak6,ak7,ak8⟩:=box9 hX2;obtain ⟨bk0,bk1,bk2,bk3,bk4,bk5,bk6,bk7,bk8⟩:=box9 hY2;obtain ⟨zk0,zk1,zk2,zk3,zk4,zk5,zk6,zk7,zk8⟩:=box9 hZ2;obtain ⟨zz0,zz1,zz2,zz3,zz4,zz5,zz6,zz7,zz8⟩:=wr9 hZ2;rcases hk with ⟨h4,htf⟩|⟨h4,h1⟩
 ·subst h4 htf;by_cases h1:k2=1
  ·subst h1;go_wp2_with fail;refine (HC.out _ hB2).mono ?_;rintro e v3 ⟨ca,cc,rfl,ho3,hb3⟩;have HO3:Hid (OwnF rangeV 2 94 v3 v2.heap.size (.slice ca m cc) l):=ho3;have hv2:w.heap.size+2<v2.heap.size:=alt2;clear ho3;have hX3:=(hb3.block _ (by omega)).trans hX2;have hY3:=(hb3.block _ (by omega)).trans hY2;have hZ3:=(hb3.block _ (by omega)).trans hZ2;have hB3:=hB2.trans (hb3.mono hB2.size);have alt3:w.heap.size+2<v3.heap.size:=(gA hZ3);clear hb3 hX2 hY2 hZ2 hB2 alt2 ak0 ak1 ak2 ak3 ak4 ak5 ak6 ak7 ak8 bk0 bk1 bk2 bk3 bk4 bk5 bk6 bk7 bk8 zk0 zk1 zk2 zk3 zk4 zk5 zk6 zk7 zk8 zz0 zz1 zz2 zz3 zz4 zz5 zz6 zz7 zz8 HC;obtain ⟨ak0,ak1,ak2,ak3,ak4,ak5,ak6,ak7,ak8⟩:=box9 hX3;obtain ⟨bk0,bk1,bk2,bk3,bk4,bk5,bk6,bk7,bk8⟩:=box9 hY3;obtain ⟨zk0,zk1,zk2,zk3,zk4,zk5,zk6,zk7,zk8⟩:=box9 hZ3;obtain ⟨zz0,zz1,zz2,zz3,zz4,zz5,zz6,zz7,zz8⟩:=wr9 hZ3;obtain ⟨W9,e9,hx9,hB9,hK9⟩:=store9 hZ3 hB3 (by omega) (.int .i64 c) (.int .i64 n) (.int .i64 4) (.int .i64 p) (.string s) (.slice ca m cc) (.int .i64 tc) (.int .i64 tn) (.bool on);obtain ⟨r0,r1,r2,r3,r4,r5,r6,r7,r8⟩:=box9 hx9;have HO9:Hid (OwnF rangeV 2 94 W9 w.heap.size (.slice ca m cc) l):=(hK9.own HO3.out (by omega)).mono (by omega);clear HO3;go_wp2_with fail
   try rw [e9]
   refine bodyPost_ret (v:=.tuple #[.agg #[.int .i64 c,.int .i64 n,.int .i64 4,.int .i64 p,.string s,.slice ca m cc,.int .i64 tc,.int .i64 tn,.bool on],.int .i64 0]) (by simp [results,Tryz.results52,go_sem,r0,r1,r2,r3,r4,r5,r6,r7,r8]) rfl ⟨ca,m,cc,rfl,HO9.out,hB9⟩
  ·have t1:(k2==1)=false:=nB h1;have t2:(k2 != 1)=true:=by simp [bne,t1]
   have t3:decide (k2=1)=false:=decide_eq_false h1;go_wp2_with fail;refine (HC.out _ hB2).mono ?_;rintro e v3 ⟨ca,cc,rfl,ho3,hb3⟩;have HO3:Hid (OwnF rangeV 2 94 v3 v2.heap.size (.slice ca m cc) l):=ho3;have hv2:w.heap.size+2<v2.heap.size:=alt2;clear ho3;have hX3:=(hb3.block _ (by omega)).trans hX2;have hY3:=(hb3.block _ (by omega)).trans hY2;have hZ3:=(hb3.block _ (by omega)).trans hZ2;have hB3:=hB2.trans (hb3.mono hB2.size);have alt3:w.heap.size+2<v3.heap.size:=(gA hZ3);clear hb3 hX2 hY2 hZ2 hB2 alt2 ak0 ak1 ak2 ak3 ak4 ak5 ak6 ak7 ak8 bk0 bk1 bk2 bk3 bk4 bk5 bk6 bk7 bk8 zk0 zk1 zk2 zk3 zk4 zk5 zk6 zk7 zk8 zz0 zz1 zz2 zz3 zz4 zz5 zz6 zz7 zz8 HC;obtain ⟨ak0,ak1,ak2,ak3,ak4,ak5,ak6,ak7,ak8⟩:=box9 hX3;obtain ⟨bk0,bk1,bk2,bk3,bk4,bk5,bk6,bk7,bk8⟩:=box9 hY3;obtain ⟨zk0,zk1,zk2,zk3,zk4,zk5,zk6,zk7,zk8⟩:=box9 hZ3;obtain ⟨zz0,zz1,zz2,zz3,zz4,zz5,zz6,zz7,zz8⟩:=wr9 hZ3;obtain ⟨W9,e9,hx9,hB9,hK9⟩:=store9 hZ3 hB3 (by omega) (.int .i64 c) (.int .i64 n) (.int .i64 4) (.int .i64 p) (.string s) (.slice ca m cc) (.int .i64 tc) (.int .i64 tn) (.bool on);obtain ⟨r0,r1,r2,r3,r4,r5,r6,r7,r8⟩:=box9 hx9;have HO9:Hid (OwnF rangeV 2 94 W9 w.heap.size (.slice ca m cc) l):=(hK9.own HO3.out (by omega)).mono (by omega);clear HO3;go_wp2_with fail
   try rw [e9]
   refine bodyPost_ret (v:=.tuple #[.agg #[.int .i64 c,.int .i64 n,.int .i64 4,.int .i64 p,.string s,.slice ca m cc,.int .i64 tc,.int .i64 tn,.bool on],.int .i64 0]) (by simp [results,Tryz.results52,go_sem,r0,r1,r2,r3,r4,r5,r6,r7,r8]) rfl ⟨ca,m,cc,rfl,HO9.out,hB9⟩
 ·have t1:(k2==1)=false:=nB h1;have t2:(k2 != 1)=true:=by simp [bne,t1]
  have t3:decide (k2=1)=false:=decide_eq_false h1;have t4:(k==4)=false:=nB h4;have t5:decide (k=4)=false:=decide_eq_false h4;go_wp2_with fail;refine (HC.out _ hB2).mono ?_;rintro e v3 ⟨ca,cc,rfl,ho3,hb3⟩;have HO3:Hid (OwnF rangeV 2 94 v3 v2.heap.size (.slice ca m cc) l):=ho3;have hv2:w.heap.size+2<v2.heap.size:=alt2;clear ho3;have hX3:=(hb3.block _ (by omega)).trans hX2;have hY3:=(hb3.block _ (by omega)).trans hY2;have hZ3:=(hb3.block _ (by omega)).trans hZ2;have hB3:=hB2.trans (hb3.mono hB2.size);have alt3:w.heap.size+2<v3.heap.size:=(gA hZ3);clear hb3 hX2 hY2 hZ2 hB2 alt2 ak0 ak1 ak2 ak3 ak4 ak5 ak6 ak7 ak8 bk0 bk1 bk2 bk3 bk4 bk5 bk6 bk7 bk8 zk0 zk1 zk2 zk3 zk4 zk5 zk6 zk7 zk8 zz0 zz1 zz2 zz3 zz4 zz5 zz6 zz7 zz8 HC;obtain ⟨ak0,ak1,ak2,ak3,ak4,ak5,ak6,ak7,ak8⟩:=box9 hX3;obtain ⟨bk0,bk1,bk2,bk3,bk4,bk5,bk6,bk7,bk8⟩:=box9 hY3;obtain ⟨zk0,zk1,zk2,zk3,zk4,zk5,zk6,zk7,zk8⟩:=box9 hZ3;obtain ⟨zz0,zz1,zz2,zz3,zz4,zz5,zz6,zz7,zz8⟩:=wr9 hZ3;obtain ⟨W9,e9,hx9,hB9,hK9⟩:=store9 hZ3 hB3 (by omega) (.int .i64 c) (.int .i64 n) (.int .i64 k) (.int .i64 p) (.string s) (.slice ca m cc) (.int .i64 tc) (.int .i64 tn) (.bool on);obtain ⟨r0,r1,r2,r3,r4,r5,r6,r7,r8⟩:=box9 hx9;have HO9:Hid (OwnF rangeV 2 94 W9 w.heap.size (.slice ca m cc) l):=(hK9.own HO3.out (by omega)).mono (by omega);clear HO3;go_wp2_with fail
  try rw [e9]
  refine bodyPost_ret (v:=.tuple #[.agg #[.int .i64 c,.int .i64 n,.int .i64 k,.int .i64 p,.string s,.slice ca m cc,.int .i64 tc,.int .i64 tn,.bool on],.int .i64 0]) (by simp [results,Tryz.results52,go_sem,r0,r1,r2,r3,r4,r5,r6,r7,r8]) rfl ⟨ca,m,cc,rfl,HO9.out,hB9⟩
end Go.Proofs.YtmeciikfnbbllaaGreatDoor
