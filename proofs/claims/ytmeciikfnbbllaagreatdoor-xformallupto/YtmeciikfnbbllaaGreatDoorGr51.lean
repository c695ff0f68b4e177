import Derived.Test.YtmeciikfnbbllaaGreatDoorAl
import Derived.Test.YtmeciikfnbbllaaGreatDoorGr69
import Derived.Test.YtmeciikfnbbllaaGreatDoorGr62
set_option maxHeartbeats 2000000
set_option maxRecDepth 100000
namespace Go.Proofs.YtmeciikfnbbllaaGreatDoor
open Go.RowKit Go.Lib
theorem encs_len2 (rs:List Int):rs.length≤(encs rs).length:=by
 induction rs with
 | nil=>simp
 | cons r rs ih=>have:=encB_pos r;rw [encs_cons,List.length_cons,List.length_append];omega
def posOf (rs:List Int) (j:Nat):Nat:=(encs (rs.take j)).length
theorem posOf_zero (rs:List Int):posOf rs 0=0:=by simp [posOf,encs]
theorem posOf_succ (rs:List Int) (j:Nat) (h:j<rs.length):posOf rs (j+1)=posOf rs j+(encB rs[j]).length:=by
 unfold posOf;rw [List.take_succ_eq_append_getElem h,encs_append,List.length_append];simp [encs]
theorem posOf_all (rs:List Int):posOf rs rs.length=(encs rs).length:=by simp [posOf]
theorem posOf_drop (rs:List Int) (j:Nat):(encs rs).drop (posOf rs j)=encs (rs.drop j):=by
 unfold posOf;have h:=encs_append (rs.take j) (rs.drop j);rw [List.take_append_drop] at h;rw [h,List.drop_left]
theorem posOf_mono (rs:List Int) {i j:Nat} (h:i≤j):posOf rs i≤posOf rs j:=by
 unfold posOf;have h2:rs.take j=rs.take i++(rs.take j).drop i:=by
  have:=List.take_append_drop i (rs.take j);rw [List.take_take,Nat.min_eq_left h] at this;exact this.symm
 rw [h2,encs_append,List.length_append];omega
theorem posOf_le (rs:List Int) (j:Nat):posOf rs j≤(encs rs).length:=by
 rcases Nat.le_total j rs.length with h|h
 ·rw [← posOf_all];exact posOf_mono rs h
 ·rw [posOf,List.take_of_length_le h];exact lR _
theorem posOf_lt (rs:List Int) {i j:Nat} (h:i<j) (hj:j≤rs.length):posOf rs i<posOf rs j:=by
 have h1:=posOf_succ rs i (by omega);have h2:=encB_pos rs[i];have h3:=posOf_mono rs (show i+1≤j by omega);omega
theorem posOf_ge (rs:List Int) (j:Nat) (h:j≤rs.length):j≤posOf rs j:=by
 have:=encs_len2 (rs.take j);rw [List.length_take,Nat.min_eq_left h] at this;exact this
structure Bar (w:World):Prop where
 lies:∃ t fr,w.heap[0]?=some (.cells barCells t fr)
theorem Bar.below {w w':World} (h:Bar w) (hb:Below w.heap.size w w'):Bar w':=by
 obtain ⟨t,fr,hg⟩:=h.lies;exact ⟨t,fr,bar_below hb (gA hg) hg⟩
theorem check_bar {s:ByteArray} {n p c:Int} (hs:s.size≤9223372036854775807) (h:check s=(n,p,c)) (w:World) (hw:Bar w) :
  Calls Tryz.prog 25 #[.string s] w fun e w'=>e=.returned (.tuple #[.int .i64 n,.int .i64 p,.int .i64 c])∧Below w.heap.size w w':=by
 obtain ⟨t,fr,hg⟩:=hw.lies;exact check_eq s (by unfold maxLen;omega) h w fr t hg
end Go.Proofs.YtmeciikfnbbllaaGreatDoor
namespace Go.Proofs.YtmeciikfnbbllaaGreatDoor
open Go.RowKit Go.Lib Sp
theorem slicesEq_any {w:World} {a:Option Addr} {n cap:Nat} {l:List (Int×Int)} (h:Rng w a n cap l) {b:Option Addr} {m capb:Nat} {k:List (Int×Int)} (hk:Rng w b m capb k) :
  Calls Tryz.prog 92 #[.slice a n cap,.slice b m capb] w fun e w'=>e=.returned (.bool (decide (l=k)))∧Below w.heap.size w w':=by
 have hln:=h.len;have hkn:=hk.len;have hnb:n≤9223372036854775807:=by have:=h.room;simp only [maxLen] at this;omega
 by_cases hnm:n=m
 ·subst hnm;obtain ⟨r,hr⟩:∃ r,decide (l=k)=r:=⟨_,rfl⟩;have HR:Hid (decide (l=k)=r):=hr;rw [hr];clear hr;go_enter Tryz.func92,Tryz.ntmps92;go_wp2_with fail;go_loopw [5,13] (fun u i w'=>∃ j:Nat,j≤n∧i=.int .i64 j∧Below w.heap.size w w'∧Hid (∀ i,i<j→l.getD i (0,0)=k.getD i (0,0))) (fun _ i _=>n-(RowKit.intOf i).toNat)
  case atStart=>exact ⟨0,Nat.zero_le _,rfl,bE _ _,fun i hi=>by omega⟩
  case round =>
   obtain ⟨j,hjn,rfl,hb,HE⟩:=hrel;by_cases hj:j<n
   ·obtain ⟨g,off,rfl,hg,hc,hd⟩:=h.cells j hj;obtain ⟨g2,off2,rfl,hg2,hc2,hd2⟩:=hk.cells j hj;have c0:=(hb.cell (p:=⟨g,off+j*2,none⟩) hg).trans hc;have c1:=(hb.cell (p:=⟨g,off+j*2+1,none⟩) hg).trans hd;have c2:=(hb.cell (p:=⟨g2,off2+j*2,none⟩) hg2).trans hc2;have c3:=(hb.cell (p:=⟨g2,off2+j*2+1,none⟩) hg2).trans hd2;clear hc hd hc2 hd2;by_cases he:l.getD j (0,0)=k.getD j (0,0)
    ·have HE2:Hid (∀ i,i<j+1→l.getD i (0,0)=k.getD i (0,0)):=fun i hi=>by
      by_cases e:i=j
      ·subst e;exact he
      ·exact HE.out i (by omega)
     rw [← he] at c2 c3;generalize (l.getD j (0,0)).1=x at *;generalize (l.getD j (0,0)).2=y at *;clear he HE;go_wp2_with fail;go_quiet (fail);go_wp2_with fail;go_roundw
     case rel=>exact ⟨j+1,by omega,by go_num,below_drewN hb _,HE2⟩
     case measure=>simp [RowKit.intOf];omega
    ·have hne:r=false:=by
      rw [← HR.out];exact decide_eq_false (fun e=>he (by rw [e]))
     subst hne;clear HE HR;obtain ⟨x,y,hxy⟩:∃ x y,l.getD j (0,0)=(x,y):=⟨_,_,rfl⟩;obtain ⟨x2,y2,hxy2⟩:∃ x y,k.getD j (0,0)=(x,y):=⟨_,_,rfl⟩;rw [hxy] at c0 c1 he;rw [hxy2] at c2 c3 he;simp only at c0 c1 c2 c3;clear hxy hxy2;by_cases hx:x=x2
     ·subst hx;have t1:(y==y2)=false:=nB (fun e=>he (by rw [e]));clear he;go_wp2_with fail;go_quiet (fail);go_wp2_with fail;go_ret;exact ⟨rfl,below_drewN hb _⟩
     ·have t1:(x==x2)=false:=nB hx;clear he hx;go_wp2_with fail;go_quiet (fail);go_wp2_with fail;go_ret;exact ⟨rfl,below_drewN hb _⟩
   ·have hr:r=true:=by
     rw [← HR.out];refine decide_eq_true (List.ext_getElem (by omega) fun i h1 h2=>?_);have:=HE.out i (by omega);simpa [List.getD_eq_getElem?_getD,h1,h2] using this
    subst hr;clear HR HE;go_wp2_with fail;go_ret;exact ⟨rfl,hb⟩
 ·have e0:decide (l=k)=false:=decide_eq_false (fun e=>by subst e;omega);rw [e0];have t1:((n:Int)==(m:Int))=false:=by simp;omega
  clear e0 hln hkn;go_enter Tryz.func92,Tryz.ntmps92;go_wp2_with fail;go_ret;exact ⟨rfl,bE _ _⟩
def opVal (o:OpV) (v:Value):Value:=.agg #[.int .i64 o.c,.int .i64 o.n,.int .i64 o.k,.int .i64 o.p,.string o.s,v,.int .i64 o.tc,.int .i64 o.tn,.bool o.on]
theorem run_eqID (w:World) (a b c d:Int):(Op.equalIn 10000 27 (.agg #[.int .i64 a,.int .i64 b]) (.agg #[.int .i64 c,.int .i64 d])).run Tryz.prog w=.ok (a==c&&b==d) w:=by
 show (Op.equalIn (9998+1+1) _ _ _).run _ _=_;rw [Op.equalIn];simp only [Sem.run_bind,run_underlying Tryz.underlying27,Result.andThen_ok,Tryz.sizeOf3];simp [List.range',part,Tryz.isAgg3,Tryz.sizeOf3,run_equalIn_int w _ _ _ _ _ _ Tryz.underlying3,Sem.run_bind,Result.andThen_ok,Sem.run_ite];by_cases h1:a=c<;>by_cases h2:b=d<;>simp [h1,h2]
theorem isID_any (c n:Int) (w:World):Calls Tryz.prog 42 #[.agg #[.int .i64 c,.int .i64 n]] w fun e w'=>e=.returned (.bool (isIdP c n))∧Below w.heap.size w w':=by
 obtain ⟨r,hr⟩:∃ r,isIdP c n=r:=⟨_,rfl⟩;rw [hr];unfold isIdP at hr;by_cases h1:1≤c
 ·by_cases h2:c≤8
  ·by_cases h3:1≤n
   ·by_cases h4:n≤1024
    ·rw [decide_eq_true ⟨h1,h2,h3,h4⟩] at hr;subst hr;go_enter Tryz.func42,Tryz.ntmps42;go_wp2_with fail;go_ret;exact ⟨rfl,(bE _ _).alloc (lR _) _⟩
    ·rw [decide_eq_false (by omega)] at hr;subst hr;have d4:decide (n≤1024)=false:=decide_eq_false h4;clear h4;go_enter Tryz.func42,Tryz.ntmps42;go_wp2_with fail;go_ret;exact ⟨rfl,(bE _ _).alloc (lR _) _⟩
   ·rw [decide_eq_false (by omega)] at hr;subst hr;have d4:decide (1≤n)=false:=decide_eq_false h3;clear h3;go_enter Tryz.func42,Tryz.ntmps42;go_wp2_with fail;go_ret;exact ⟨rfl,(bE _ _).alloc (lR _) _⟩
  ·rw [decide_eq_false (by omega)] at hr;subst hr;have d4:decide (c≤8)=false:=decide_eq_false h2;clear h2;go_enter Tryz.func42,Tryz.ntmps42;go_wp2_with fail;go_ret;exact ⟨rfl,(bE _ _).alloc (lR _) _⟩
 ·rw [decide_eq_false (by omega)] at hr;subst hr;have d4:decide (1≤c)=false:=decide_eq_false h1;clear h1;go_enter Tryz.func42,Tryz.ntmps42;go_wp2_with fail;go_ret;exact ⟨rfl,(bE _ _).alloc (lR _) _⟩
def eqP (o x:OpV):Bool:=decide (o.c=x.c∧o.n=x.n∧o.k=x.k∧o.p=x.p∧o.s=x.s∧o.l=x.l∧o.tc=x.tc∧o.tn=x.tn∧o.on=x.on)
theorem toList_inj {a b:ByteArray} (h:a.toList=b.toList):a=b:=by
 rw [ByteArray.toList_eq,ByteArray.toList_eq] at h;obtain ⟨⟨x⟩⟩:=a;obtain ⟨⟨y⟩⟩:=b;simp at h;subst h;rfl
theorem opEqual_any {o x:OpV} {w:World} {a b:Option Addr} {n m cap capb:Nat} (h:Rng w a n cap o.l) (hx:Rng w b m capb x.l) :
  Calls Tryz.prog 71 #[opVal o (.slice a n cap),opVal x (.slice b m capb)] w fun e w'=>e=.returned (.bool (eqP o x))∧Below w.heap.size w w':=by
 have HI:=run_eqID;have HG:Tryz.prog.eqGuardType Tryz.prog.depth 27=false:=by kernel_rfl
 obtain ⟨c1,n1,k1,p1,s1,l1,tc1,tn1,on1⟩:=o;obtain ⟨c2,n2,k2,p2,s2,l2,tc2,tn2,on2⟩:=x;simp only [opVal] at *;have HS:Hid (∀ w':World,Below w.heap.size w w'→Calls Tryz.prog 92 #[.slice a n cap,.slice b m capb] w' fun e w''=>e=.returned (.bool (decide (l1=l2)))∧Below w'.heap.size w' w''):=fun w' hb=>slicesEq_any (h.below hb) (hx.below hb)
 clear h hx;obtain ⟨r,hr⟩:∃ r,eqP ⟨c1,n1,k1,p1,s1,l1,tc1,tn1,on1⟩ ⟨c2,n2,k2,p2,s2,l2,tc2,tn2,on2⟩=r:=⟨_,rfl⟩;rw [hr];simp only [eqP] at hr;by_cases e0:c1=c2
 ·subst e0;by_cases e1:n1=n2
  ·subst e1;by_cases e2:k1=k2
   ·subst e2;by_cases e3:p1=p2
    ·subst e3;by_cases e4:s1=s2
     ·subst e4;by_cases e5:l1=l2
      ·subst e5;by_cases e6:tc1=tc2
       ·subst e6;by_cases e7:tn1=tn2
        ·subst e7;by_cases e8:on1=on2
         ·subst e8;have e6:decide True=true:=rfl;rw [decide_eq_true (by simp)] at hr;subst hr;go_enter Tryz.func71,Tryz.ntmps71;go_wp2_with fail;have hw2:=((bE w.heap.size w).alloc (lR _) (Obj.cells #[.int .i64 c1,.int .i64 n1,.int .i64 k1,.int .i64 p1,.string s1,.slice a n cap,.int .i64 tc1,.int .i64 tn1,.bool on1] 33)).alloc (by simp) (Obj.cells #[.int .i64 c1,.int .i64 n1,.int .i64 k1,.int .i64 p1,.string s1,.slice b m capb,.int .i64 tc1,.int .i64 tn1,.bool on1] 33);refine (HS.out _ hw2).mono ?_;rintro e w1 ⟨rfl,hb1⟩;have hB:=hw2.trans (hb1.mono hw2.size);have d6:w1.cell? ⟨w.heap.size,6,none⟩=some (.int .i64 tc1):=(hb1.cell (p:=⟨w.heap.size,6,none⟩) (by simp;omega)).trans (World.cell?_alloc2_first ..);have f6:w1.cell? ⟨w.heap.size+1,6,none⟩=some (.int .i64 tc1):=(hb1.cell (p:=⟨w.heap.size+1,6,none⟩) (by simp)).trans (World.cell?_alloc2_new ..);have d7:w1.cell? ⟨w.heap.size,7,none⟩=some (.int .i64 tn1):=(hb1.cell (p:=⟨w.heap.size,7,none⟩) (by simp;omega)).trans (World.cell?_alloc2_first ..);have f7:w1.cell? ⟨w.heap.size+1,7,none⟩=some (.int .i64 tn1):=(hb1.cell (p:=⟨w.heap.size+1,7,none⟩) (by simp)).trans (World.cell?_alloc2_new ..);have d8:w1.cell? ⟨w.heap.size,8,none⟩=some (.bool on1):=(hb1.cell (p:=⟨w.heap.size,8,none⟩) (by simp;omega)).trans (World.cell?_alloc2_first ..);have f8:w1.cell? ⟨w.heap.size+1,8,none⟩=some (.bool on1):=(hb1.cell (p:=⟨w.heap.size+1,8,none⟩) (by simp)).trans (World.cell?_alloc2_new ..);clear hw2 hb1 HS;go_wp2_with fail;go_ret;exact ⟨rfl,hB⟩
         ·rw [decide_eq_false (by simp [e8])] at hr;subst hr;have t1:(on1==on2)=false:=nB e8;clear e8;go_enter Tryz.func71,Tryz.ntmps71;go_wp2_with fail;have hw2:=((bE w.heap.size w).alloc (lR _) (Obj.cells #[.int .i64 c1,.int .i64 n1,.int .i64 k1,.int .i64 p1,.string s1,.slice a n cap,.int .i64 tc1,.int .i64 tn1,.bool on1] 33)).alloc (by simp) (Obj.cells #[.int .i64 c1,.int .i64 n1,.int .i64 k1,.int .i64 p1,.string s1,.slice b m capb,.int .i64 tc1,.int .i64 tn1,.bool on2] 33);refine (HS.out _ hw2).mono ?_;rintro e w1 ⟨rfl,hb1⟩;have hB:=hw2.trans (hb1.mono hw2.size);have d6:w1.cell? ⟨w.heap.size,6,none⟩=some (.int .i64 tc1):=(hb1.cell (p:=⟨w.heap.size,6,none⟩) (by simp;omega)).trans (World.cell?_alloc2_first ..);have f6:w1.cell? ⟨w.heap.size+1,6,none⟩=some (.int .i64 tc1):=(hb1.cell (p:=⟨w.heap.size+1,6,none⟩) (by simp)).trans (World.cell?_alloc2_new ..);have d7:w1.cell? ⟨w.heap.size,7,none⟩=some (.int .i64 tn1):=(hb1.cell (p:=⟨w.heap.size,7,none⟩) (by simp;omega)).trans (World.cell?_alloc2_first ..);have f7:w1.cell? ⟨w.heap.size+1,7,none⟩=some (.int .i64 tn1):=(hb1.cell (p:=⟨w.heap.size+1,7,none⟩) (by simp)).trans (World.cell?_alloc2_new ..);have d8:w1.cell? ⟨w.heap.size,8,none⟩=some (.bool on1):=(hb1.cell (p:=⟨w.heap.size,8,none⟩) (by simp;omega)).trans (World.cell?_alloc2_first ..);have f8:w1.cell? ⟨w.heap.size+1,8,none⟩=some (.bool on2):=(hb1.cell (p:=⟨w.heap.size+1,8,none⟩) (by simp)).trans (World.cell?_alloc2_new ..);clear hw2 hb1 HS;go_wp2_with fail;go_ret;exact ⟨rfl,hB⟩
        ·rw [decide_eq_false (by simp [e7])] at hr;subst hr;have t1:(tn1==tn2)=false:=nB e7;clear e7;go_enter Tryz.func71,Tryz.ntmps71;go_wp2_with fail;have hw2:=((bE w.heap.size w).alloc (lR _) (Obj.cells #[.int .i64 c1,.int .i64 n1,.int .i64 k1,.int .i64 p1,.string s1,.slice a n cap,.int .i64 tc1,.int .i64 tn1,.bool on1] 33)).alloc (by simp) (Obj.cells #[.int .i64 c1,.int .i64 n1,.int .i64 k1,.int .i64 p1,.string s1,.slice b m capb,.int .i64 tc1,.int .i64 tn2,.bool on2] 33);refine (HS.out _ hw2).mono ?_;rintro e w1 ⟨rfl,hb1⟩;have hB:=hw2.trans (hb1.mono hw2.size);have d6:w1.cell? ⟨w.heap.size,6,none⟩=some (.int .i64 tc1):=(hb1.cell (p:=⟨w.heap.size,6,none⟩) (by simp;omega)).trans (World.cell?_alloc2_first ..);have f6:w1.cell? ⟨w.heap.size+1,6,none⟩=some (.int .i64 tc1):=(hb1.cell (p:=⟨w.heap.size+1,6,none⟩) (by simp)).trans (World.cell?_alloc2_new ..);have d7:w1.cell? ⟨w.heap.size,7,none⟩=some (.int .i64 tn1):=(hb1.cell (p:=⟨w.heap.size,7,none⟩) (by simp;omega)).trans (World.cell?_alloc2_first ..);have f7:w1.cell? ⟨w.heap.size+1,7,none⟩=some (.int .i64 tn2):=(hb1.cell (p:=⟨w.heap.size+1,7,none⟩) (by simp)).trans (World.cell?_alloc2_new ..);have d8:w1.cell? ⟨w.heap.size,8,none⟩=some (.bool on1):=(hb1.cell (p:=⟨w.heap.size,8,none⟩) (by simp;omega)).trans (World.cell?_alloc2_first ..);have f8:w1.cell? ⟨w.heap.size+1,8,none⟩=some (.bool on2):=(hb1.cell (p:=⟨w.heap.size+1,8,none⟩) (by simp)).trans (World.cell?_alloc2_new ..);clear hw2 hb1 HS;go_wp2_with fail;go_ret;exact ⟨rfl,hB⟩
       ·rw [decide_eq_false (by simp [e6])] at hr;subst hr;have t1:(tc1==tc2)=false:=nB e6;clear e6;go_enter Tryz.func71,Tryz.ntmps71;go_wp2_with fail;have hw2:=((bE w.heap.size w).alloc (lR _) (Obj.cells #[.int .i64 c1,.int .i64 n1,.int .i64 k1,.int .i64 p1,.string s1,.slice a n cap,.int .i64 tc1,.int .i64 tn1,.bool on1] 33)).alloc (by simp) (Obj.cells #[.int .i64 c1,.int .i64 n1,.int .i64 k1,.int .i64 p1,.string s1,.slice b m capb,.int .i64 tc2,.int .i64 tn2,.bool on2] 33);refine (HS.out _ hw2).mono ?_;rintro e w1 ⟨rfl,hb1⟩;have hB:=hw2.trans (hb1.mono hw2.size);have d6:w1.cell? ⟨w.heap.size,6,none⟩=some (.int .i64 tc1):=(hb1.cell (p:=⟨w.heap.size,6,none⟩) (by simp;omega)).trans (World.cell?_alloc2_first ..);have f6:w1.cell? ⟨w.heap.size+1,6,none⟩=some (.int .i64 tc2):=(hb1.cell (p:=⟨w.heap.size+1,6,none⟩) (by simp)).trans (World.cell?_alloc2_new ..);have d7:w1.cell? ⟨w.heap.size,7,none⟩=some (.int .i64 tn1):=(hb1.cell (p:=⟨w.heap.size,7,none⟩) (by simp;omega)).trans (World.cell?_alloc2_first ..);have f7:w1.cell? ⟨w.heap.size+1,7,none⟩=some (.int .i64 tn2):=(hb1.cell (p:=⟨w.heap.size+1,7,none⟩) (by simp)).trans (World.cell?_alloc2_new ..);have d8:w1.cell? ⟨w.heap.size,8,none⟩=some (.bool on1):=(hb1.cell (p:=⟨w.heap.size,8,none⟩) (by simp;omega)).trans (World.cell?_alloc2_first ..);have f8:w1.cell? ⟨w.heap.size+1,8,none⟩=some (.bool on2):=(hb1.cell (p:=⟨w.heap.size+1,8,none⟩) (by simp)).trans (World.cell?_alloc2_new ..);clear hw2 hb1 HS;go_wp2_with fail;go_ret;exact ⟨rfl,hB⟩
      ·rw [decide_eq_false (by simp [e5])] at hr;subst hr;have t1:decide (l1=l2)=false:=decide_eq_false e5;rw [t1] at HS;clear e5;go_enter Tryz.func71,Tryz.ntmps71;go_wp2_with fail;have hw2:=((bE w.heap.size w).alloc (lR _) (Obj.cells #[.int .i64 c1,.int .i64 n1,.int .i64 k1,.int .i64 p1,.string s1,.slice a n cap,.int .i64 tc1,.int .i64 tn1,.bool on1] 33)).alloc (by simp) (Obj.cells #[.int .i64 c1,.int .i64 n1,.int .i64 k1,.int .i64 p1,.string s1,.slice b m capb,.int .i64 tc2,.int .i64 tn2,.bool on2] 33);refine (HS.out _ hw2).mono ?_;rintro e w1 ⟨rfl,hb1⟩;have hB:=hw2.trans (hb1.mono hw2.size);have d6:w1.cell? ⟨w.heap.size,6,none⟩=some (.int .i64 tc1):=(hb1.cell (p:=⟨w.heap.size,6,none⟩) (by simp;omega)).trans (World.cell?_alloc2_first ..);have f6:w1.cell? ⟨w.heap.size+1,6,none⟩=some (.int .i64 tc2):=(hb1.cell (p:=⟨w.heap.size+1,6,none⟩) (by simp)).trans (World.cell?_alloc2_new ..);have d7:w1.cell? ⟨w.heap.size,7,none⟩=some (.int .i64 tn1):=(hb1.cell (p:=⟨w.heap.size,7,none⟩) (by simp;omega)).trans (World.cell?_alloc2_first ..);have f7:w1.cell? ⟨w.heap.size+1,7,none⟩=some (.int .i64 tn2):=(hb1.cell (p:=⟨w.heap.size+1,7,none⟩) (by simp)).trans (World.cell?_alloc2_new ..);have d8:w1.cell? ⟨w.heap.size,8,none⟩=some (.bool on1):=(hb1.cell (p:=⟨w.heap.size,8,none⟩) (by simp;omega)).trans (World.cell?_alloc2_first ..);have f8:w1.cell? ⟨w.heap.size+1,8,none⟩=some (.bool on2):=(hb1.cell (p:=⟨w.heap.size+1,8,none⟩) (by simp)).trans (World.cell?_alloc2_new ..);clear hw2 hb1 HS;go_wp2_with fail;go_ret;exact ⟨rfl,hB⟩
     ·rw [decide_eq_false (by simp [e4])] at hr;subst hr;have t1:(s1.toList==s2.toList)=false:=nB (fun e=>e4 (toList_inj e));clear e4;go_enter Tryz.func71,Tryz.ntmps71;go_wp2_with fail;go_ret;exact ⟨rfl,((bE _ _).alloc (lR _) _).alloc (by simp) _⟩
    ·rw [decide_eq_false (by simp [e3])] at hr;subst hr;have t1:(p1==p2)=false:=nB e3;clear e3;go_enter Tryz.func71,Tryz.ntmps71;go_wp2_with fail;go_ret;exact ⟨rfl,((bE _ _).alloc (lR _) _).alloc (by simp) _⟩
   ·rw [decide_eq_false (by simp [e2])] at hr;subst hr;have t1:(k1==k2)=false:=nB e2;clear e2;go_enter Tryz.func71,Tryz.ntmps71;go_wp2_with fail;go_ret;exact ⟨rfl,((bE _ _).alloc (lR _) _).alloc (by simp) _⟩
  ·rw [decide_eq_false (by simp [e1])] at hr;subst hr;have t1:(n1==n2)=false:=nB e1;clear e1;go_enter Tryz.func71,Tryz.ntmps71;go_wp2_with fail;go_ret;exact ⟨rfl,((bE _ _).alloc (lR _) _).alloc (by simp) _⟩
 ·rw [decide_eq_false (by simp [e0])] at hr;subst hr;have t1:(c1==c2)=false:=nB e0;clear e0;go_enter Tryz.func71,Tryz.ntmps71;go_wp2_with fail;go_ret;exact ⟨rfl,((bE _ _).alloc (lR _) _).alloc (by simp) _⟩
end Go.Proofs.YtmeciikfnbbllaaGreatDoor
