import Derived.Test.YtmeciikfnbbllaaGreatDoorAl
import Derived.Test.YtmeciikfnbbllaaGreatDoorGr46
import Derived.Test.YtmeciikfnbbllaaGreatDoorGr52
import Derived.Deep.RegionHeld3
import Derived.Test.YtmeciikfnbbllaaGreatDoorGr51
set_option maxHeartbeats 8000000
set_option maxRecDepth 100000
namespace Go.Proofs.YtmeciikfnbbllaaGreatDoor.Sp
open Go.RowKit Go.Lib
theorem back_ok {w:World} {a:Option Addr} {n cap:Nat} {l:List (Int×Int)} (h:Rng w a n cap l) (hl:Lst l) {at_ k:Int} (hp:(0≤at_∧at_≤1048576)∧(0≤k∧k≤1048576)∧at_+k≤1048576) :
  Calls Tryz.prog 87 #[.slice a n cap,.int .i64 at_,.int .i64 k] w fun e w'=>∃ o no co i ni ci,e=.returned (.tuple #[.slice o no co,.slice i ni ci,.int .i64 0])∧Own w' w.heap.size (.slice o no co) (backOldL l at_ k)∧Own w' w.heap.size (.slice i ni ci) (backInL l at_ k) ∧
   (∀ g,(Value.slice o no co).ownBlock=some g→(Value.slice i ni ci).ownBlock≠some g)∧Below w.heap.size w w':=by
 have HA:=check_any h;rw [hl.check] at HA;simp only at HA;have hlen:=h.len;have hfew:=hl.few;have HG1:Hid (∀ w,Calls Tryz.prog 88 #[.int .i64 at_] w fun e w'=>e=.returned (.bool true)∧w'=w):=isGap_yes at_ hp.1;have HG2:Hid (∀ w,Calls Tryz.prog 88 #[.int .i64 k] w fun e w'=>e=.returned (.bool true)∧w'=w):=isGap_yes k hp.2.1;have HG3:Hid (∀ w,Calls Tryz.prog 88 #[.int .i64 (at_+k)] w fun e w'=>e=.returned (.bool true)∧w'=w):=isGap_yes (at_+k) (by omega)
 have HT1:Hid (∀ (W:World),Below w.heap.size w W→Calls Tryz.prog 90 #[.slice none 0 0,.slice a n cap,.int .i64 0,.int .i64 at_,.int .i64 0] W _) :=
  fun W hBW=>taken_any (B:=w.heap.size) (own_nil W _) hBW.size (h.below hBW) h.under 0 at_ 0 (by omega) (by omega) hl.wide (by omega) (by omega) (by omega)
 have HT2:Hid (∀ (W:World) (o':Option Addr) (no' capo':Nat),Below w.heap.size w W→Own W w.heap.size (.slice o' no' capo') (takenL [] l 0 at_ 0)→Calls Tryz.prog 90 #[.slice o' no' capo',.slice a n cap,.int .i64 (at_+k),.int .i64 1048576,.int .i64 (-k)] W _) :=
  fun W o' no' capo' hBW hoW=>taken_any (B:=w.heap.size) hoW hBW.size (h.below hBW) h.under (at_+k) 1048576 (-k) (by have:=hoW.rng.len;have:=takenL_length [] l 0 at_ 0;simp only [List.length_nil] at this;omega) (by omega) hl.wide (by omega) (by omega) (by omega)
 have HT3:Hid (∀ (W:World),Below w.heap.size w W→Calls Tryz.prog 90 #[.slice none 0 0,.slice a n cap,.int .i64 at_,.int .i64 (at_+k),.int .i64 (-at_)] W _) :=
  fun W hBW=>taken_any (B:=W.heap.size) (own_nil W _) (lR _) (h.below hBW) (h.under.mono hBW.size) at_ (at_+k) (-at_) (by omega) (by omega) hl.wide (by omega) (by omega) (by omega)
 obtain ⟨⟨a1,a2⟩,⟨b1,b2⟩,b3⟩:=hp;clear h hl hlen hfew;go_enter Tryz.func87,Tryz.ntmps87;go_wp2_with fail;refine HA.mono ?_;rintro e w1 ⟨rfl,hb1⟩;go_wp2_with fail;refine (HG1.out _).mono ?_;rintro e w2 ⟨rfl,rfl⟩;go_wp2_with fail;refine (HG2.out _).mono ?_;rintro e w3 ⟨rfl,rfl⟩;go_wp2_with fail;refine (HG3.out _).mono ?_;rintro e w4 ⟨rfl,rfl⟩;go_wp2_with fail;refine (HT1.out _ hb1).mono ?_;rintro e w5 ⟨o2,no2,capo2,rfl,ho2,hb5⟩;have hB5:=hb1.trans hb5;go_wp2_with fail;refine (HT2.out _ o2 no2 capo2 hB5 ho2).mono ?_;rintro e w6 ⟨o3,no3,capo3,rfl,ho3,hb6⟩;have hB6:=hB5.trans hb6;go_wp2_with fail;refine (HT3.out _ hB6).mono ?_;rintro e w7 ⟨o4,no4,capo4,rfl,ho4,hb7⟩;have hB7:=hB6.trans (hb7.mono hB6.size);have HO3:Hid (Own w7 w.heap.size (.slice o3 no3 capo3) (backOldL l at_ k)):=ho3.below hb7;have HO4:Hid (Own w7 w.heap.size (.slice o4 no4 capo4) (backInL l at_ k)):=ho4.mono hB6.size;have HD:Hid (∀ g,(Value.slice o3 no3 capo3).ownBlock=some g→(Value.slice o4 no4 capo4).ownBlock≠some g):=fun g h1 h2=>by
  have e1:=(World.ownsRow.lt ho3 g h1).2;have e2:=(World.ownsRow.lt ho4 g h2).1;omega
 clear ho2 ho3 ho4 hb5 hb6 hb7;go_wp2_with fail;go_ret3;exact ⟨_,_,_,_,_,_,rfl,HO3.out,HO4.out,HD.out,hB7⟩
end Go.Proofs.YtmeciikfnbbllaaGreatDoor.Sp
namespace Go.Proofs.YtmeciikfnbbllaaGreatDoor
open Go.RowKit Go.Lib
def roomP (o:OpV):Int:=if o.k=1∧0≤o.p∧o.p<1048576 then o.p else 1048576
def ownX (o:OpV):Int:=opCheck o (roomP o)
theorem ownX_eq (o:OpV):ownX o=ownP o:=by
 unfold ownX ownP roomP;by_cases h1:o.k=1
 ·by_cases h2:0≤o.p
  ·by_cases h3:o.p<1048576
   ·rw [if_pos ⟨h1,h2,h3⟩,if_pos ⟨h1,h2,by omega⟩]
   ·rw [if_neg (by omega)];by_cases h4:o.p≤1048576
    ·rw [if_pos ⟨h1,h2,h4⟩,show o.p=1048576 by omega]
    ·rw [if_neg (by omega)]
  ·rw [if_neg (by omega),if_neg (by omega)]
 ·rw [if_neg (by omega),if_neg (by omega)]
def clashP (a b:OpV):Bool:=(a.c==b.c&&a.n==b.n)&&!(a.c==0&&a.n==0)
def shiftP (a:OpV) (n:Int):OpV×Int:=if 1048576<a.p+n+widthP a then (op0,24) else ({ a with p:=a.p+n },0)
def growB (l:List (Int×Int)) (at_ n:Int):Bool:=match l.getLast? with
 | some r=>decide (at_<r.2∧1048576<r.2+n)
 | none=>false
theorem growB_iff (l:List (Int×Int)) (at_ n:Int):growB l at_ n=true↔Sp.grows l at_ n:=by
 unfold growB Sp.grows;cases h:l.getLast? with
 | none=>simp
 | some r=>simp
def thrE (l:List (Int×Int)) (at_ n:Int):Int:=if growB l at_ n=true then 24 else if 32768<(Sp.throughL l at_ n).length then 21 else 0
def thrP (a b:OpV):OpV×Int :=
 if thrE a.l b.p (widthP b)≠0 then (op0,thrE a.l b.p (widthP b)) else ({ a with l:=Sp.throughL a.l b.p (widthP b) },0)
def inclP (a b:OpV) (e:Bool):OpV×Int :=
 if clashP a b=true then (op0,50) else if b.k≠1∨a.k=4 then (a,0) else if a.k≠1 then thrP a b
 else if b.p<a.p∨(b.p=a.p∧e=true) then shiftP a (widthP b) else (a,0)
def backP (a b:OpV):OpV×Int :=
 if Sp.backInL a.l b.p (widthP b)≠[] then (op0,23) else ({ a with l:=Sp.backOldL a.l b.p (widthP b) },0)
def outP (a b:OpV):OpV×Int :=
 if b.p+widthP b≤a.p then ({ a with p:=a.p-widthP b },0) else if b.p<a.p then (op0,23) else (a,0)
def exclP (a b:OpV):OpV×Int :=
 if clashP a b=true then (op0,50) else if a.k=4∧(a.tc=b.c∧a.tn=b.n) then (op0,23) else if b.k≠1∨a.k=4 then (a,0)
 else if a.k≠1 then backP a b else outP a b
def orderedP (a b:OpV):Bool:=decide (a.k=4)&&((a.tc==b.c&&a.tn==b.n)||(decide (b.k=4)&&((a.tc==b.tc&&a.tn==b.tn)&&(a.on != b.on))))
def transP (a b:OpV):(OpV×OpV)×Int :=
 if (exclP b a).2≠0 then ((op0,op0),(exclP b a).2) else if orderedP a b=true then ((op0,op0),50)
 else if (inclP a b true).2≠0 then ((op0,op0),(inclP a b true).2) else (((exclP b a).1,(inclP a b true).1),0)
def firstErr:List OpV→Int
 | []=>0
 | o::t=>if ownP o≠0 then ownP o else firstErr t
theorem roomFor_any {o:OpV} {v:Value} {w:World}:Calls Tryz.prog 24 #[opVal o v] w fun e w'=>e=.returned (.int .i64 (roomP o))∧Below w.heap.size w w':=by
 obtain ⟨c,n,k,p,s,l,tc,tn,on⟩:=o;have hw2:=(bE w.heap.size w).alloc (lR _) (Obj.cells #[.int .i64 c,.int .i64 n,.int .i64 k,.int .i64 p,.string s,v,.int .i64 tc,.int .i64 tn,.bool on] 33);obtain ⟨r,hr⟩:∃ r,roomP ⟨c,n,k,p,s,l,tc,tn,on⟩=r:=⟨_,rfl⟩;rw [hr];simp only [roomP] at hr;simp only [opVal];by_cases h1:k=1
 ·subst h1;by_cases h2:0≤p
  ·by_cases h3:p<1048576
   ·rw [if_pos ⟨rfl,h2,h3⟩] at hr;subst hr;go_enter Tryz.func24,Tryz.ntmps24;go_wp2_with fail;go_ret;exact ⟨rfl,hw2⟩
   ·rw [if_neg (by omega)] at hr;subst hr;have t3:decide (p<1048576)=false:=decide_eq_false h3;clear h3;go_enter Tryz.func24,Tryz.ntmps24;go_wp2_with fail;go_ret;exact ⟨rfl,hw2⟩
  ·rw [if_neg (by omega)] at hr;subst hr;have t3:decide (0≤p)=false:=decide_eq_false h2;clear h2;go_enter Tryz.func24,Tryz.ntmps24;go_wp2_with fail;go_ret;exact ⟨rfl,hw2⟩
 ·rw [if_neg (by omega)] at hr;subst hr;have t1:(k==1)=false:=nB h1;clear h1;go_enter Tryz.func24,Tryz.ntmps24;go_wp2_with fail;go_ret;exact ⟨rfl,hw2⟩
theorem clash_any {a b:OpV} {va vb:Value} {w:World}:Calls Tryz.prog 37 #[opVal a va,opVal b vb] w fun e w'=>e=.returned (.bool (clashP a b))∧Below w.heap.size w w':=by
 have HG:Tryz.prog.eqGuardType Tryz.prog.depth 27=false:=by kernel_rfl
 obtain ⟨c,n,k,p,s,l,tc,tn,on⟩:=a;obtain ⟨c2,n2,k2,p2,s2,l2,tc2,tn2,on2⟩:=b;have hw2:=((bE w.heap.size w).alloc (lR _) (Obj.cells #[.int .i64 c,.int .i64 n,.int .i64 k,.int .i64 p,.string s,va,.int .i64 tc,.int .i64 tn,.bool on] 33)).alloc (by simp) (Obj.cells #[.int .i64 c2,.int .i64 n2,.int .i64 k2,.int .i64 p2,.string s2,vb,.int .i64 tc2,.int .i64 tn2,.bool on2] 33);have e1:=fun W=>run_eqID W c n c2 n2
 have e2:=fun W=>run_eqID W c n 0 0
 obtain ⟨r1,h1⟩:∃ r1,(c==c2&&n==n2)=r1:=⟨_,rfl⟩;obtain ⟨r2,h2⟩:∃ r2,(c==0&&n==0)=r2:=⟨_,rfl⟩;simp only [clashP,h1,h2];simp only [h1] at e1;simp only [h2] at e2;clear h1 h2;simp only [opVal];cases r1<;>cases r2
 all_goals
  go_enter Tryz.func37,Tryz.ntmps37;go_wp2_with fail;go_ret;exact ⟨rfl,hw2⟩
abbrev OpM:=OpV×(Option Addr×Nat×Nat)
def opF (x:OpM):List Value:=[.int .i64 x.1.c,.int .i64 x.1.n,.int .i64 x.1.k,.int .i64 x.1.p,.string x.1.s,.slice x.2.1 x.2.2.1 x.2.2.2,.int .i64 x.1.tc,.int .i64 x.1.tn,.bool x.1.on]
theorem layO:Lay opF 9:=⟨fun _=>rfl,by decide,fun x u hu=>by simp [opF] at hu;rcases hu with rfl|rfl|rfl|rfl|rfl|rfl|rfl|rfl|rfl<;>rfl⟩
theorem Rw.at9 {w W:World} {a:Option Addr} {n cap:Nat} {L:List OpM} (h:Rw opF 9 w a n cap L) (hb:Below w.heap.size w W) (j:Nat) (hj:j<n) :
  ∃ g off x,a=some ⟨g,off,none⟩∧g<w.heap.size∧L[j]?=some x∧W.cell? ⟨g,off+j*9,none⟩=some (.int .i64 x.1.c)∧W.cell? ⟨g,off+j*9+1,none⟩=some (.int .i64 x.1.n)∧W.cell? ⟨g,off+j*9+2,none⟩=some (.int .i64 x.1.k)∧W.cell? ⟨g,off+j*9+3,none⟩=some (.int .i64 x.1.p)∧W.cell? ⟨g,off+j*9+4,none⟩=some (.string x.1.s)∧W.cell? ⟨g,off+j*9+5,none⟩=some (.slice x.2.1 x.2.2.1 x.2.2.2)∧W.cell? ⟨g,off+j*9+6,none⟩=some (.int .i64 x.1.tc)∧W.cell? ⟨g,off+j*9+7,none⟩=some (.int .i64 x.1.tn)∧W.cell? ⟨g,off+j*9+8,none⟩=some (.bool x.1.on):=by
 obtain ⟨g,off,x,ha,hg,hx,hc⟩:=h.at j hj;have h2:∀ i v,(opF x)[i]?=some v→W.cell? ⟨g,off+j*9+i,none⟩=some v:=fun i v hv=>(hb.cell (p:=⟨g,off+j*9+i,none⟩) hg).trans (hc i v hv)
 exact ⟨g,off,x,ha,hg,hx,h2 0 _ rfl,h2 1 _ rfl,h2 2 _ rfl,h2 3 _ rfl,h2 4 _ rfl,h2 5 _ rfl,h2 6 _ rfl,h2 7 _ rfl,h2 8 _ rfl⟩
def OkOps (w:World) (L:List OpM):Prop:=∀ x∈L,Sp.Rng w x.2.1 x.2.2.1 x.2.2.2 x.1.l∧x.1.s.size≤9223372036854775807
theorem OkOps.below {w w':World} {L:List OpM} (h:OkOps w L) (hb:Below w.heap.size w w'):OkOps w' L:=fun x hx=>⟨(h x hx).1.below hb,(h x hx).2⟩
def errs (L:List OpM):Int:=firstErr (L.map (·.1))
theorem errs_drop (L:List OpM) (j:Nat) (x:OpM) (h:L[j]?=some x):errs (L.drop j)=if ownP x.1≠0 then ownP x.1 else errs (L.drop (j+1)):=by
 obtain ⟨hj,hx⟩:=List.getElem?_eq_some_iff.1 h;rw [List.drop_eq_getElem_cons hj,hx];rfl
theorem ownErrors_any {w:World} {a:Option Addr} {n cap:Nat} {L:List OpM} (h:Rw opF 9 w a n cap L) (hL:OkOps w L) (hw:Bar w) :
  Calls Tryz.prog 15 #[.slice a n cap] w fun e w'=>e=.returned (.int .i64 (errs L))∧Below w.heap.size w w':=by
 have hln:=h.len;have hnb:n≤9223372036854775807:=by have:=h.room;simp only [maxLen] at this;omega
 have HC:Hid (∀ (x:OpM) (W:World) (r:Int),x∈L→Below w.heap.size w W→Calls Tryz.prog 23 #[opVal x.1 (.slice x.2.1 x.2.2.1 x.2.2.2),.int .i64 r] W fun e w'=>e=.returned (.int .i64 (opCheck x.1 r))∧Below W.heap.size W w'):=fun x W r hx hb=>opCheck_any ((hL x hx).1.below hb) (hL x hx).2 (hw.below hb)
 have HRm:Hid (∀ (o:OpV) (v:Value) (W:World),Calls Tryz.prog 24 #[opVal o v] W fun e w'=>e=.returned (.int .i64 (roomP o))∧Below W.heap.size W w'):=fun o v W=>roomFor_any
 obtain ⟨r,hr⟩:∃ r,errs L=r:=⟨_,rfl⟩;have HR:Hid (errs (L.drop 0)=r):=hr;rw [hr];clear hr hL hw;go_enter Tryz.func15,Tryz.ntmps15;go_wp2_with fail;go_loopw [4,5,8] (fun u4 u5 i w'=>∃ j:Nat,j≤n∧i=.int .i64 j∧Below w.heap.size w w'∧Hid (errs (L.drop j)=r)) (fun _ _ i _=>n-(RowKit.intOf i).toNat)
 case atStart=>exact ⟨0,Nat.zero_le _,rfl,bE _ _,HR⟩
 case round =>
  obtain ⟨j,hjn,rfl,hb,HE⟩:=hrel;by_cases hj:j<n
  ·obtain ⟨g,off,x,rfl,hg,hx,c0,c1,c2,c3,c4,c5,c6,c7,c8⟩:=h.at9 hb j hj;have hxm:x∈L:=List.mem_of_getElem? hx;have he:=errs_drop L j x hx;rw [HE.out] at he;have HC2:=fun W r hb=>HC.out x W r hxm hb
   obtain ⟨⟨c,n0,k,p,s,l,tc,tn,on⟩,xa,xm,xc⟩:=x;simp only at c0 c1 c2 c3 c4 c5 c6 c7 c8 HC2;clear HE HC h hx hxm;obtain ⟨W0,hW0⟩:∃ W0,wr.alloc (Obj.cells #[.int .i64 c,.int .i64 n0,.int .i64 k,.int .i64 p,.string s,.slice xa xm xc,.int .i64 tc,.int .i64 tn,.bool on] 33)=W0:=⟨_,rfl⟩;have hX:W0.heap[wr.heap.size]?=some (Obj.cells #[.int .i64 c,.int .i64 n0,.int .i64 k,.int .i64 p,.string s,.slice xa xm xc,.int .i64 tc,.int .i64 tn,.bool on] 33):=by rw [← hW0];exact alloc_last _ _ _ rfl
   have hB0:Below w.heap.size w W0:=by rw [← hW0];exact hb.alloc hb.size _
   have hsz:wr.heap.size<W0.heap.size:=by rw [← hW0];simp
   obtain ⟨k0,k1,k2,k3,k4,k5,k6,k7,k8⟩:=box9 hX;go_wp2_with fail
   try rw [hW0]
   have hcur:Below W0.heap.size W0 W0:=bE _ _;clear hW0 hX c0 c1 c2 c3 c4 c5 c6 c7 c8 hb;simp only [opVal] at *
   go_region_held3 (fun W=>W.cell? ⟨wr.heap.size,0,none⟩=some (.int .i64 c)∧W.cell? ⟨wr.heap.size,1,none⟩=some (.int .i64 n0)∧W.cell? ⟨wr.heap.size,2,none⟩=some (.int .i64 k)∧W.cell? ⟨wr.heap.size,3,none⟩=some (.int .i64 p)∧W.cell? ⟨wr.heap.size,4,none⟩=some (.string s)∧W.cell? ⟨wr.heap.size,5,none⟩=some (.slice xa xm xc)∧W.cell? ⟨wr.heap.size,6,none⟩=some (.int .i64 tc)∧W.cell? ⟨wr.heap.size,7,none⟩=some (.int .i64 tn)∧W.cell? ⟨wr.heap.size,8,none⟩=some (.bool on)) (first|exact ⟨k0,k1,k2,k3,k4,k5,k6,k7,k8⟩|exact ⟨e0,e1,e2,e3,e4,e5,e6,e7,e8⟩)
    (first
     | (go_at_call 24;refine (HRm.out ⟨c,n0,k,p,s,l,tc,tn,on⟩ (.slice xa xm xc) _).mono ?_;rintro e w1 ⟨rfl,hb1⟩;have hcur:Below W0.heap.size W0 w1:=(by first|exact hcur.trans (hb1.mono hcur.size)|exact hcur.drew.trans (hb1.mono hcur.size));have e0:=(hcur.cell (p:=⟨wr.heap.size,0,none⟩) hsz).trans k0;have e1:=(hcur.cell (p:=⟨wr.heap.size,1,none⟩) hsz).trans k1;have e2:=(hcur.cell (p:=⟨wr.heap.size,2,none⟩) hsz).trans k2;have e3:=(hcur.cell (p:=⟨wr.heap.size,3,none⟩) hsz).trans k3;have e4:=(hcur.cell (p:=⟨wr.heap.size,4,none⟩) hsz).trans k4;have e5:=(hcur.cell (p:=⟨wr.heap.size,5,none⟩) hsz).trans k5;have e6:=(hcur.cell (p:=⟨wr.heap.size,6,none⟩) hsz).trans k6;have e7:=(hcur.cell (p:=⟨wr.heap.size,7,none⟩) hsz).trans k7;have e8:=(hcur.cell (p:=⟨wr.heap.size,8,none⟩) hsz).trans k8)
     | (go_at_call 23;refine (HC2 _ _ ?_).mono ?_;(first|exact hB0.trans (hcur.mono hB0.size)|exact hB0.trans (hcur.drew.mono hB0.size));rintro e w1 ⟨rfl,hb1⟩;have hcur:Below W0.heap.size W0 w1:=(by first|exact hcur.trans (hb1.mono hcur.size)|exact hcur.drew.trans (hb1.mono hcur.size));have e0:=(hcur.cell (p:=⟨wr.heap.size,0,none⟩) hsz).trans k0;have e1:=(hcur.cell (p:=⟨wr.heap.size,1,none⟩) hsz).trans k1;have e2:=(hcur.cell (p:=⟨wr.heap.size,2,none⟩) hsz).trans k2;have e3:=(hcur.cell (p:=⟨wr.heap.size,3,none⟩) hsz).trans k3;have e4:=(hcur.cell (p:=⟨wr.heap.size,4,none⟩) hsz).trans k4;have e5:=(hcur.cell (p:=⟨wr.heap.size,5,none⟩) hsz).trans k5;have e6:=(hcur.cell (p:=⟨wr.heap.size,6,none⟩) hsz).trans k6;have e7:=(hcur.cell (p:=⟨wr.heap.size,7,none⟩) hsz).trans k7;have e8:=(hcur.cell (p:=⟨wr.heap.size,8,none⟩) hsz).trans k8))
   all_goals
    have hB1:=hB0.trans (hcur.mono hB0.size);have hv:opCheck ⟨c,n0,k,p,s,l,tc,tn,on⟩ (roomP ⟨c,n0,k,p,s,l,tc,tn,on⟩)=ownP ⟨c,n0,k,p,s,l,tc,tn,on⟩:=ownX_eq _;rw [hv];generalize ownP ⟨c,n0,k,p,s,l,tc,tn,on⟩=z at *;clear HC2 HRm hv HR;by_cases hz:z=0
    ·rw [if_neg (by simp [hz])] at he;subst hz;have HE2:Hid (errs (L.drop (j+1))=r):=he.symm;clear he;go_wp2_with fail;go_roundw
     case rel=>exact ⟨j+1,by omega,by go_num,(by first|exact hB1|exact below_drewN hB1 _),HE2⟩
     case measure=>simp [RowKit.intOf];omega
    ·rw [if_pos hz] at he;subst he;have t1:(r==0)=false:=nB hz;clear hz;go_wp2_with fail;go_ret;exact ⟨rfl,by first|exact hB1|exact below_drewN hB1 _⟩
  ·have hr:r=0:=by
    rw [← HE.out,List.drop_eq_nil_of_le (by omega)];rfl
   subst hr;clear HR HE HC HRm;go_wp2_with fail;go_ret;exact ⟨rfl,hb⟩
structure Right (o:OpV):Prop where
 kind:1≤o.k∧o.k≤4
 id:(o.c=0∧o.n=0)∨isIdP o.c o.n=true
 extra:extra o=false
 ins:o.k=1→0≤o.p∧o.p≤1048576∧insP o o.p=0
 rng:o.k=2∨o.k=3→o.l≠[]∧Sp.Lst o.l
 tgt:o.k=4→isIdP o.tc o.tn=true∧¬ (o.tc=o.c∧o.tn=o.n)
theorem insP_code (o:OpV) (t:Int) (h:insP o t=0):0≤o.p∧o.p≤t∧(check o.s).2.2=0∧(check o.s).1≠0∧(check o.s).1≤256∧t+(check o.s).1≤1048576:=by
 unfold insP at h;split at h
 ·exact absurd h (by assumption)
 split at h
 ·cases h
 split at h
 ·cases h
 split at h
 ·cases h
 split at h
 ·cases h
 omega
theorem opCheck_zero {o:OpV} {t:Int} (h:opCheck o t=0):0≤t∧t≤1048576∧(1≤o.k∧o.k≤4)∧((o.c=0∧o.n=0)∨isIdP o.c o.n=true)∧Go.Proofs.YtmeciikfnbbllaaGreatDoor.extra o=false∧(o.k=1→insP o t=0)∧(o.k=2∨o.k=3→rngP o t=0)∧(o.k=4→tgtP o=0):=by
 unfold opCheck at h;split at h
 ·cases h
 split at h
 ·cases h
 split at h
 ·cases h
 rename_i h1 h2 h3
 have hI:(o.c=0∧o.n=0)∨isIdP o.c o.n=true:=by
  by_cases hz:o.c=0∧o.n=0
  ·exact .inl hz
  ·right;cases hb:isIdP o.c o.n with
   | true=>rfl
   | false=>exact absurd ⟨hz,hb⟩ h3
 split at h
 ·cases h
 rename_i h4
 refine ⟨by omega,by omega,by omega,hI,by simpa using h4,fun e=>?_,fun e=>?_,fun e=>?_⟩
 ·rw [if_pos e] at h;exact h
 ·rw [if_neg (by omega),if_neg (by omega)] at h;exact h
 ·rw [if_neg (by omega),if_pos e] at h;exact h
theorem right_of {o:OpV} (h:ownP o=0):Right o:=by
 unfold ownP at h;have key:∀ t,opCheck o t=0→(o.k=1→0≤o.p∧o.p≤1048576∧insP o o.p=0)→Right o:=fun t ht hi=>by
  obtain ⟨_,_,h2,h3,h4,h5,h6,h7⟩:=opCheck_zero ht;refine ⟨h2,h3,h4,hi,fun e=>?_,fun e=>?_⟩
  ·have:=h6 e;unfold rngP at this;split at this
   ·cases this
   rename_i hn
   split at this
   ·rename_i hc;exact absurd this hc
   rename_i hc
   exact ⟨hn,Sp.checkL_ok (by simpa using hc)⟩
  ·have:=h7 e;unfold tgtP at this;split at this
   ·cases this
   rename_i hn
   refine ⟨?_,fun hh=>hn (.inr hh)⟩;cases hb:isIdP o.tc o.tn with
   | true=>rfl
   | false=>exact absurd (.inl hb) hn
 split at h
 ·rename_i hc
  refine key _ h fun e=>⟨hc.2.1,hc.2.2,?_⟩
  exact (opCheck_zero h).2.2.2.2.2.1 e
 ·rename_i hc
  refine key _ h fun e=>?_
  have h1:=(opCheck_zero h).2.2.2.2.2.1 e;have h2:=insP_code _ _ h1;exact absurd ⟨e,h2.1,h2.2.1⟩ hc
theorem Right.wd {o:OpV} (h:Right o):0≤widthP o∧widthP o≤256:=by
 unfold widthP;split
 ·rename_i e
  have h1:=insP_code _ _ (h.ins e).2.2;have h2:=check_nonneg o.s;omega
 ·omega
theorem Right.pos {o:OpV} (h:Right o) (e:o.k=1):0≤o.p∧o.p≤1048576∧1≤widthP o∧o.p+widthP o≤1048576:=by
 have h1:=insP_code _ _ (h.ins e).2.2;have h2:=check_nonneg o.s;have h3:widthP o=(check o.s).1:=by unfold widthP;rw [if_pos e]
 have:=(h.ins e).2.1;omega
theorem Right.lst {o:OpV} (h:Right o) (e1:o.k≠1) (e4:o.k≠4):Sp.Lst o.l:=(h.rng (by have:=h.kind;omega)).2
theorem first2 {o o2:OpV} (h:firstErr [o,o2]=0):ownP o=0∧ownP o2=0:=by
 unfold firstErr at h;split at h
 ·rename_i hn;exact absurd h hn
 ·rename_i hn
  unfold firstErr at h;split at h
  ·rename_i hm;exact absurd h hm
  ·rename_i hm;exact ⟨by simpa using hn,by simpa using hm⟩
theorem first1 {o:OpV}:firstErr [o]=ownP o:=by
 unfold firstErr;split
 ·rfl
 ·rename_i hn;unfold firstErr;simp at hn;exact hn.symm
theorem one_op1 {W:World} {g:Nat} {x:OpM} {T:TypeId} (h:W.heap[g]?=some (.cells (opF x).toArray T)):Rw opF 9 W (some ⟨g,0,none⟩) 1 1 [x] :=
 ⟨rfl,⟨lR _,by decide⟩,fun _=>⟨g,0,rfl,(gA h),fun j z hj i v hv=>by
  rw [cH h,Nat.zero_add]
  match j,hj with
  | 0,hj =>
   simp at hj;subst hj
   simp only [Nat.zero_mul,Nat.zero_add,List.getElem?_toArray]
   exact hv
  | j+1,hj=>simp at hj⟩⟩
def caretP (x:Int) (o:OpV):Int×Int :=
 if ownP o≠0 then (0,ownP o) else if x<0∨1048576<x then (0,12) else if o.k≠1∨x≤o.p then (x,0)
 else if 1048576<x+widthP o then (0,24) else (x+widthP o,0)
theorem Caret_any {o:OpV} {x:Int} {a:Option Addr} {m cap:Nat} {w:World} (hR:Sp.Rng w a m cap o.l) (hs:o.s.size≤281474976710656) (hw:Bar w) :
  Calls Tryz.prog 9 #[.int .i64 x,opVal o (.slice a m cap)] w fun e w'=>e=.returned (.tuple #[.int .i64 (caretP x o).1,.int .i64 (caretP x o).2])∧Below w.heap.size w w':=by
 have HE:Hid (∀ (W:World) (g:Nat),Below w.heap.size w W→W.heap[g]?=some (.cells (opF (o,(a,m,cap))).toArray 33)→Calls Tryz.prog 15 #[.slice (some ⟨g,0,none⟩) 1 1] W fun e w'=>e=.returned (.int .i64 (ownP o))∧Below W.heap.size W w'):=fun W g hb hg=>by
  have:=ownErrors_any (L:=[(o,(a,m,cap))]) (one_op1 hg) (fun x hx=>by
   simp at hx
   subst hx
   exact ⟨hR.below hb,by simp only;omega⟩) (hw.below hb)
  rw [show errs [(o,(a,m,cap))]=ownP o from first1] at this;exact this
 have HW:Hid (∀ (W:World),Below w.heap.size w W→Calls Tryz.prog 16 #[opVal o (.slice a m cap)] W fun e w'=>e=.returned (.int .i64 (widthP o))∧Below W.heap.size W w'):=fun W hb=>width_any (by omega) (hw.below hb)
 have hwd:ownP o=0→0≤widthP o∧widthP o≤256:=fun h=>(right_of h).wd
 obtain ⟨q,hq⟩:∃ q,caretP x o=q:=⟨_,rfl⟩;rw [hq];unfold caretP at hq;generalize ownP o=z at *;generalize widthP o=wd at *;simp only [opF] at HE;clear hR hs hw;obtain ⟨c,n,k,p,s,l,tc,tn,on⟩:=o;simp only [opVal] at *;obtain ⟨W0,hW0⟩:∃ W0,w.alloc (Obj.cells #[.int .i64 c,.int .i64 n,.int .i64 k,.int .i64 p,.string s,.slice a m cap,.int .i64 tc,.int .i64 tn,.bool on] 33)=W0:=⟨_,rfl⟩;have hX:W0.heap[w.heap.size]?=some (Obj.cells #[.int .i64 c,.int .i64 n,.int .i64 k,.int .i64 p,.string s,.slice a m cap,.int .i64 tc,.int .i64 tn,.bool on] 33):=by rw [← hW0];exact alloc_last _ _ _ rfl
 have hB0:Below w.heap.size w W0:=by rw [← hW0];exact (bE w.heap.size w).alloc (lR _) _
 have alt:w.heap.size<W0.heap.size:=(gA hX);obtain ⟨ak0,ak1,ak2,ak3,ak4,ak5,ak6,ak7,ak8⟩:=box9 hX;obtain ⟨W1,hW1⟩:∃ W1,W0.alloc (Obj.cells #[.int .i64 c,.int .i64 n,.int .i64 k,.int .i64 p,.string s,.slice a m cap,.int .i64 tc,.int .i64 tn,.bool on] 33)=W1:=⟨_,rfl⟩;have hT:W1.heap[W0.heap.size]?=some (Obj.cells #[.int .i64 c,.int .i64 n,.int .i64 k,.int .i64 p,.string s,.slice a m cap,.int .i64 tc,.int .i64 tn,.bool on] 33):=by rw [← hW1];exact alloc_last _ _ _ rfl
 have h01:Below W0.heap.size W0 W1:=by rw [← hW1];exact (bE _ _).alloc (lR _) _
 go_enter Tryz.func9,Tryz.ntmps9;go_wp2_with fail;refine (HE.out W1 _ (hB0.trans (h01.mono hB0.size)) hT).mono ?_;rintro e w1 ⟨rfl,hcur1⟩;have hcur:Below W0.heap.size W0 w1:=h01.trans (hcur1.mono h01.size);have hB1:=hB0.trans (hcur.mono hB0.size);have hX1:=(hcur.block _ alt).trans hX;clear HE hcur1 hT h01 hcur hX hB0 alt hW0 hW1 ak0 ak1 ak2 ak3 ak4 ak5 ak6 ak7 ak8;obtain ⟨ak0,ak1,ak2,ak3,ak4,ak5,ak6,ak7,ak8⟩:=box9 hX1;by_cases hz:z=0
 ·subst hz;rw [if_neg (by simp)] at hq;obtain ⟨hw0,hw1⟩:=hwd rfl;clear hwd;by_cases h1:x<0
  ·rw [if_pos (.inl h1)] at hq;subst hq;go_wp2_with fail;go_ret2;exact ⟨rfl,hB1⟩
  ·have t1:decide (x<0)=false:=decide_eq_false h1;by_cases h2:1048576<x
   ·rw [if_pos (.inr h2)] at hq;subst hq;go_wp2_with fail;go_ret2;exact ⟨rfl,hB1⟩
   ·rw [if_neg (by omega)] at hq;have t2:decide (1048576<x)=false:=decide_eq_false h2;by_cases hk:k=1
    ·subst hk;by_cases hp:x≤p
     ·rw [if_pos (.inr hp)] at hq;subst hq;go_wp2_with fail;go_ret2;exact ⟨rfl,hB1⟩
     ·rw [if_neg (by omega)] at hq;have t3:decide (x≤p)=false:=decide_eq_false hp;have e1:IntKind.i64.wrap (x+wd)=x+wd:=IntWalk.i64_in _ (by omega);go_wp2_with fail;refine (HW.out _ hB1).mono ?_;rintro e w2 ⟨rfl,hb2⟩;have hB2:=hB1.trans (hb2.mono hB1.size);clear HW hb2 hB1 hX1 ak0 ak1 ak2 ak3 ak4 ak5 ak6 ak7 ak8;by_cases hg:1048576<x+wd
      ·rw [if_pos hg] at hq;subst hq;go_wp2_with fail;go_ret2;exact ⟨rfl,hB2⟩
      ·rw [if_neg hg] at hq;subst hq;have t4:decide (1048576<x+wd)=false:=decide_eq_false hg;go_wp2_with fail;go_ret2;exact ⟨rfl,hB2⟩
    ·rw [if_pos (.inl hk)] at hq;subst hq;have t3:(k==1)=false:=nB hk;have t4:decide (k=1)=false:=decide_eq_false hk;go_wp2_with fail;go_ret2;exact ⟨rfl,hB1⟩
 ·rw [if_pos hz] at hq;subst hq;have t1:(z==0)=false:=nB hz;clear HW hz hwd;go_wp2_with fail;go_ret2;exact ⟨rfl,hB1⟩
end Go.Proofs.YtmeciikfnbbllaaGreatDoor
namespace Go.Proofs.YtmeciikfnbbllaaGreatDoor
open Go.RowKit Go.Lib Sp
theorem gIsID_any (c n:Int) (w:World):Calls Tryz.prog 99 #[.agg #[.int .i64 c,.int .i64 n]] w fun e w'=>e=.returned (.bool (isIdP c n))∧Below w.heap.size w w':=by
 obtain ⟨r,hr⟩:∃ r,isIdP c n=r:=⟨_,rfl⟩;rw [hr];unfold isIdP at hr;by_cases h1:1≤c
 ·by_cases h2:c≤8
  ·by_cases h3:1≤n
   ·by_cases h4:n≤1024
    ·rw [decide_eq_true ⟨h1,h2,h3,h4⟩] at hr;subst hr;go_enter Tryz.func99,Tryz.ntmps99;go_wp2_with fail;go_ret;exact ⟨rfl,(bE _ _).alloc (lR _) _⟩
    ·rw [decide_eq_false (by omega)] at hr;subst hr;have d4:decide (n≤1024)=false:=decide_eq_false h4;clear h4;go_enter Tryz.func99,Tryz.ntmps99;go_wp2_with fail;go_ret;exact ⟨rfl,(bE _ _).alloc (lR _) _⟩
   ·rw [decide_eq_false (by omega)] at hr;subst hr;have d4:decide (1≤n)=false:=decide_eq_false h3;clear h3;go_enter Tryz.func99,Tryz.ntmps99;go_wp2_with fail;go_ret;exact ⟨rfl,(bE _ _).alloc (lR _) _⟩
  ·rw [decide_eq_false (by omega)] at hr;subst hr;have d4:decide (c≤8)=false:=decide_eq_false h2;clear h2;go_enter Tryz.func99,Tryz.ntmps99;go_wp2_with fail;go_ret;exact ⟨rfl,(bE _ _).alloc (lR _) _⟩
 ·rw [decide_eq_false (by omega)] at hr;subst hr;have d4:decide (1≤c)=false:=decide_eq_false h1;clear h1;go_enter Tryz.func99,Tryz.ntmps99;go_wp2_with fail;go_ret;exact ⟨rfl,(bE _ _).alloc (lR _) _⟩
theorem gNone_any (c n:Int) (w:World):Calls Tryz.prog 100 #[.agg #[.int .i64 c,.int .i64 n]] w fun e w'=>e=.returned (.bool (decide (c=0∧n=0)))∧Below w.heap.size w w':=by
 obtain ⟨r,hr⟩:∃ r,decide (c=0∧n=0)=r:=⟨_,rfl⟩;rw [hr];by_cases h1:c=0
 ·subst h1;by_cases h2:n=0
  ·subst h2;rw [decide_eq_true ⟨rfl,rfl⟩] at hr;subst hr;go_enter Tryz.func100,Tryz.ntmps100;go_wp2_with fail;go_ret;exact ⟨rfl,(bE _ _).alloc (lR _) _⟩
  ·rw [decide_eq_false (by omega)] at hr;subst hr;have t1:(n==0)=false:=nB h2;clear h2;go_enter Tryz.func100,Tryz.ntmps100;go_wp2_with fail;go_ret;exact ⟨rfl,(bE _ _).alloc (lR _) _⟩
 ·rw [decide_eq_false (by omega)] at hr;subst hr;have t1:(c==0)=false:=nB h1;clear h1;go_enter Tryz.func100,Tryz.ntmps100;go_wp2_with fail;go_ret;exact ⟨rfl,(bE _ _).alloc (lR _) _⟩
end Go.Proofs.YtmeciikfnbbllaaGreatDoor
