import Derived.Test.YtmeciikfnbbllaaGreatDoorGr47
import Derived.Test.YtmeciikfnbbllaaGreatDoorGr50
import Derived.Test.YtmeciikfnbbllaaGreatDoorXjJ
import Derived.Test.YtmeciikfnbbllaaGreatDoorXiJ
import Derived.Test.YtmeciikfnbbllaaGreatDoorXhJ
import Derived.Test.YtmeciikfnbbllaaGreatDoorGr30
import Derived.Test.YtmeciikfnbbllaaGreatDoorGr69
import Derived.ProofKit
import Derived.OpenShut
import Derived.Deep.DeepHandedRow
import Derived.Lib.LaidTab
import Derived.Test.YtmeciikfnbbllaaGreatDoorGr70
import Derived.Test.YtmeciikfnbbllaaGreatDoorRows
import Derived.SizedLaws
set_option maxHeartbeats 8000000
set_option maxRecDepth 100000
namespace Go.Proofs.YtmeciikfnbbllaaGreatDoor
open Go.RowKit Go.Lib
theorem box9' {W:World} {b:Nat} {T:TypeId} {v0 v1 v2 v3 v4 v5 v6 v7 v8:Value} (h:W.heap[b]?=some (.cells #[v0,v1,v2,v3,v4,v5,v6,v7,v8] T)):W.cell? ⟨b,3,none⟩=some v3∧W.cell? ⟨b,4,none⟩=some v4:=⟨(box9 h).2.2.2.1,(box9 h).2.2.2.2.1⟩
theorem awake_any (w:World) (hB:Bar w):Calls Tryz.prog 13 #[] w fun e w'=>e=.returned (.bool true)∧Below w.heap.size w w':=by
 have HJ1:Hid (∀ W,Calls Tryz.prog 10 #[.int .i64 1,.int .i64 1,.int .i64 3,.string ⟨#[120,121]⟩] W fun e w'=>e=.returned (opVal (⟨1,1,1,3,⟨#[120,121]⟩,[],0,0,false⟩:OpV) (.slice none 0 0))∧Below W.heap.size W w'):=fun W=>ins_any 1 1 3 ⟨#[120,121]⟩ W
 have HJ2:Hid (∀ W,Calls Tryz.prog 10 #[.int .i64 2,.int .i64 1,.int .i64 3,.string ⟨#[97,98,99]⟩] W fun e w'=>e=.returned (opVal (⟨2,1,1,3,⟨#[97,98,99]⟩,[],0,0,false⟩:OpV) (.slice none 0 0))∧Below W.heap.size W w'):=fun W=>ins_any 2 1 3 ⟨#[97,98,99]⟩ W
 have HJ3:Hid (∀ W,Calls Tryz.prog 10 #[.int .i64 1,.int .i64 1,.int .i64 5,.string ⟨#[120]⟩] W fun e w'=>e=.returned (opVal (⟨1,1,1,5,⟨#[120]⟩,[],0,0,false⟩:OpV) (.slice none 0 0))∧Below W.heap.size W w'):=fun W=>ins_any 1 1 5 ⟨#[120]⟩ W
 have HJ4:Hid (∀ W,Calls Tryz.prog 10 #[.int .i64 1,.int .i64 1,.int .i64 3,.string ⟨#[97,98,99]⟩] W fun e w'=>e=.returned (opVal (⟨1,1,1,3,⟨#[97,98,99]⟩,[],0,0,false⟩:OpV) (.slice none 0 0))∧Below W.heap.size W w'):=fun W=>ins_any 1 1 3 ⟨#[97,98,99]⟩ W
 have HJ5:Hid (∀ W,Calls Tryz.prog 10 #[.int .i64 2,.int .i64 1,.int .i64 3,.string ⟨#[120]⟩] W fun e w'=>e=.returned (opVal (⟨2,1,1,3,⟨#[120]⟩,[],0,0,false⟩:OpV) (.slice none 0 0))∧Below W.heap.size W w'):=fun W=>ins_any 2 1 3 ⟨#[120]⟩ W
 have HI1:Hid (∀ W,Below w.heap.size w W→Calls Tryz.prog 18 #[opVal (⟨1,1,1,3,⟨#[120,121]⟩,[],0,0,false⟩:OpV) (.slice none 0 0),opVal (⟨2,1,1,3,⟨#[97,98,99]⟩,[],0,0,false⟩:OpV) (.slice none 0 0),.bool true] W fun e w'=>∃ va vm vc,e=.returned (.tuple #[opVal (⟨1,1,1,6,⟨#[120,121]⟩,[],0,0,false⟩:OpV) (.slice va vm vc),.int .i64 0])∧Below W.heap.size W w'):=fun W hb=>by
  refine (Include_any (o:=(⟨1,1,1,3,⟨#[120,121]⟩,[],0,0,false⟩:OpV)) (o2:=(⟨2,1,1,3,⟨#[97,98,99]⟩,[],0,0,false⟩:OpV)) (a:=none) (m:=0) (cap:=0) (b:=none) (m2:=0) (cap2:=0) (rng_of_rw (rw_nil W)) (rng_of_rw (rw_nil W)) (by simp [ByteArray.size]) (by simp [ByteArray.size]) (hB.below hb)).mono ?_;rintro e w1 ⟨va,vm,vc,rfl,_,hb1⟩;rw [show xInclude (⟨1,1,1,3,⟨#[120,121]⟩,[],0,0,false⟩:OpV) (⟨2,1,1,3,⟨#[97,98,99]⟩,[],0,0,false⟩:OpV) true=((⟨1,1,1,6,⟨#[120,121]⟩,[],0,0,false⟩:OpV),0) by kernel_rfl];exact ⟨va,vm,vc,rfl,hb1⟩
 have HI2:Hid (∀ W,Below w.heap.size w W→Calls Tryz.prog 18 #[opVal (⟨1,1,1,3,⟨#[120,121]⟩,[],0,0,false⟩:OpV) (.slice none 0 0),opVal (⟨2,1,1,3,⟨#[97,98,99]⟩,[],0,0,false⟩:OpV) (.slice none 0 0),.bool false] W fun e w'=>∃ va vm vc,e=.returned (.tuple #[opVal (⟨1,1,1,3,⟨#[120,121]⟩,[],0,0,false⟩:OpV) (.slice va vm vc),.int .i64 0])∧Below W.heap.size W w'):=fun W hb=>by
  refine (Include_any (o:=(⟨1,1,1,3,⟨#[120,121]⟩,[],0,0,false⟩:OpV)) (o2:=(⟨2,1,1,3,⟨#[97,98,99]⟩,[],0,0,false⟩:OpV)) (a:=none) (m:=0) (cap:=0) (b:=none) (m2:=0) (cap2:=0) (rng_of_rw (rw_nil W)) (rng_of_rw (rw_nil W)) (by simp [ByteArray.size]) (by simp [ByteArray.size]) (hB.below hb)).mono ?_;rintro e w1 ⟨va,vm,vc,rfl,_,hb1⟩;rw [show xInclude (⟨1,1,1,3,⟨#[120,121]⟩,[],0,0,false⟩:OpV) (⟨2,1,1,3,⟨#[97,98,99]⟩,[],0,0,false⟩:OpV) false=((⟨1,1,1,3,⟨#[120,121]⟩,[],0,0,false⟩:OpV),0) by kernel_rfl];exact ⟨va,vm,vc,rfl,hb1⟩
 have HX:Hid (∀ W,Below w.heap.size w W→Calls Tryz.prog 19 #[opVal (⟨1,1,1,5,⟨#[120]⟩,[],0,0,false⟩:OpV) (.slice none 0 0),opVal (⟨2,1,1,3,⟨#[97,98,99]⟩,[],0,0,false⟩:OpV) (.slice none 0 0)] W fun e w'=>∃ va vm vc,e=.returned (.tuple #[opVal op0 (.slice va vm vc),.int .i64 23])∧Below W.heap.size W w'):=fun W hb=>by
  refine (Exclude_any (o:=(⟨1,1,1,5,⟨#[120]⟩,[],0,0,false⟩:OpV)) (o2:=(⟨2,1,1,3,⟨#[97,98,99]⟩,[],0,0,false⟩:OpV)) (a:=none) (m:=0) (cap:=0) (b:=none) (m2:=0) (cap2:=0) (rng_of_rw (rw_nil W)) (rng_of_rw (rw_nil W)) (by simp [ByteArray.size]) (by simp [ByteArray.size]) (hB.below hb)).mono ?_;rintro e w1 ⟨va,vm,vc,rfl,_,hb1⟩;rw [show xExclude (⟨1,1,1,5,⟨#[120]⟩,[],0,0,false⟩:OpV) (⟨2,1,1,3,⟨#[97,98,99]⟩,[],0,0,false⟩:OpV)=(op0,23) by kernel_rfl];exact ⟨va,vm,vc,rfl,hb1⟩
 have HT:Hid (∀ W,Below w.heap.size w W→Calls Tryz.prog 20 #[opVal (⟨1,1,1,3,⟨#[97,98,99]⟩,[],0,0,false⟩:OpV) (.slice none 0 0),opVal (⟨2,1,1,3,⟨#[120]⟩,[],0,0,false⟩:OpV) (.slice none 0 0)] W fun e w'=>∃ va vm vc ya ym yc,e=.returned (.tuple #[opVal (⟨2,1,1,3,⟨#[120]⟩,[],0,0,false⟩:OpV) (.slice va vm vc),opVal (⟨1,1,1,4,⟨#[97,98,99]⟩,[],0,0,false⟩:OpV) (.slice ya ym yc),.int .i64 0])∧Below W.heap.size W w'):=fun W hb=>by
  refine (Transpose_any (o:=(⟨1,1,1,3,⟨#[97,98,99]⟩,[],0,0,false⟩:OpV)) (o2:=(⟨2,1,1,3,⟨#[120]⟩,[],0,0,false⟩:OpV)) (a:=none) (m:=0) (cap:=0) (b:=none) (m2:=0) (cap2:=0) (rng_of_rw (rw_nil W)) (rng_of_rw (rw_nil W)) (by simp [ByteArray.size]) (by simp [ByteArray.size]) (hB.below hb)).mono ?_;rintro e w1 ⟨va,vm,vc,ya,ym,yc,rfl,_,_,hb1⟩;rw [show xTranspose (⟨1,1,1,3,⟨#[97,98,99]⟩,[],0,0,false⟩:OpV) (⟨2,1,1,3,⟨#[120]⟩,[],0,0,false⟩:OpV)=(((⟨2,1,1,3,⟨#[120]⟩,[],0,0,false⟩:OpV),(⟨1,1,1,4,⟨#[97,98,99]⟩,[],0,0,false⟩:OpV)),0) by kernel_rfl];exact ⟨va,vm,vc,ya,ym,yc,rfl,hb1⟩
 have HN:Hid (∀ (x:Int) W,Calls Tryz.prog 11 #[.int .i64 x] W fun r w'=>r=.returned (.int .i64 x)∧W=w'):=fun x W=>(num_any x W).mono fun e w' h=>⟨h.1,h.2.symm⟩
 clear hB;simp only [opVal,op0] at HJ1 HJ2 HJ3 HJ4 HJ5 HI1 HI2 HX HT;go_enter Tryz.func13,Tryz.ntmps13;go_wp2_with fail;refine (HJ1.out _).mono ?_;rintro e w1 ⟨rfl,h1⟩;go_wp2_with fail;refine (HJ2.out _).mono ?_;rintro e w2 ⟨rfl,h2⟩;have hb2:=h1.trans (h2.mono h1.size);go_wp2_with fail;refine (HI1.out _ hb2).mono ?_;rintro e w3 ⟨va,vm,vc,rfl,h3⟩;have hb3:=hb2.trans (h3.mono hb2.size);clear h1 h2 h3 hb2 HI1 w1 w2;go_upto_region 2 with fail
 obtain ⟨W1,hW1⟩:∃ W1,w3.alloc (Obj.cells #[.int .i64 1,.int .i64 1,.int .i64 1,.int .i64 6,.string ⟨#[120,121]⟩,.slice va vm vc,.int .i64 0,.int .i64 0,.bool false] 33)=W1:=⟨_,rfl⟩;have hX1:W1.heap[w3.heap.size]?=some (Obj.cells #[.int .i64 1,.int .i64 1,.int .i64 1,.int .i64 6,.string ⟨#[120,121]⟩,.slice va vm vc,.int .i64 0,.int .i64 0,.bool false] 33):=by rw [← hW1];exact alloc_last _ _ _ rfl
 have hb4:Below w.heap.size w W1:=by rw [← hW1];exact hb3.alloc hb3.size _
 rw [hW1];clear hW1;obtain ⟨k3,k4⟩:=box9' hX1;go_wp2_with fail;refine (HN.out _ _).mono ?_;rintro e w4 ⟨rfl,rfl⟩;go_wp2_with fail;refine (HJ1.out _).mono ?_;rintro e w4 ⟨rfl,h1⟩;clear k3 k4 hX1;go_wp2_with fail;refine (HJ2.out _).mono ?_;rintro e w5 ⟨rfl,h2⟩;have hb5:=(hb4.trans (h1.mono hb4.size));have hb6:=hb5.trans (h2.mono hb5.size);go_wp2_with fail;refine (HI2.out _ hb6).mono ?_;rintro e w6 ⟨ua,um,uc,rfl,h3⟩;have hb7:=hb6.trans (h3.mono hb6.size);clear h1 h2 h3 hb5 hb6 HI2 hb4 hb3;go_upto_region 5 with fail
 obtain ⟨W2,hW2⟩:∃ W2,w6.alloc (Obj.cells #[.int .i64 1,.int .i64 1,.int .i64 1,.int .i64 3,.string ⟨#[120,121]⟩,.slice ua um uc,.int .i64 0,.int .i64 0,.bool false] 33)=W2:=⟨_,rfl⟩;have hX2:W2.heap[w6.heap.size]?=some (Obj.cells #[.int .i64 1,.int .i64 1,.int .i64 1,.int .i64 3,.string ⟨#[120,121]⟩,.slice ua um uc,.int .i64 0,.int .i64 0,.bool false] 33):=by rw [← hW2];exact alloc_last _ _ _ rfl
 have hb8:Below w.heap.size w W2:=by rw [← hW2];exact hb7.alloc hb7.size _
 rw [hW2];clear hW2;obtain ⟨k3,k4⟩:=box9' hX2;go_wp2_with fail;refine (HN.out _ _).mono ?_;rintro e w7 ⟨rfl,rfl⟩;go_wp2_with fail;refine (HJ3.out _).mono ?_;rintro e w7 ⟨rfl,h1⟩;clear k3 k4 hX2;go_wp2_with fail;refine (HJ2.out _).mono ?_;rintro e w8 ⟨rfl,h2⟩;have hb9:=(hb8.trans (h1.mono hb8.size));have hb10:=hb9.trans (h2.mono hb9.size);go_wp2_with fail;refine (HX.out _ hb10).mono ?_;rintro e w9 ⟨xa,xm,xc,rfl,h3⟩;have hb11:=hb10.trans (h3.mono hb10.size);clear h1 h2 h3 hb10 hb9 HX hb8 hb7;go_upto_region 8 with fail
 obtain ⟨W3,hW3⟩:∃ W3,w9.alloc (Obj.cells #[.int .i64 0,.int .i64 0,.int .i64 0,.int .i64 0,.string ⟨#[]⟩,.slice xa xm xc,.int .i64 0,.int .i64 0,.bool false] 33)=W3:=⟨_,rfl⟩;have hb12:Below w.heap.size w W3:=by rw [← hW3];exact hb11.alloc hb11.size _
 rw [hW3];clear hW3;go_wp2_with fail;refine (HJ4.out _).mono ?_;rintro e w10 ⟨rfl,h1⟩;go_wp2_with fail;refine (HJ5.out _).mono ?_;rintro e w11 ⟨rfl,h2⟩;have hb13:=(hb12.trans (h1.mono hb12.size));have hb14:=hb13.trans (h2.mono hb13.size);go_wp2_with fail;refine (HT.out _ hb14).mono ?_;rintro e w12 ⟨ya,ym,yc,za,zm,zc,rfl,h3⟩;have hb15:=hb14.trans (h3.mono hb14.size);clear h1 h2 h3 hb14 hb13 HT hb12 hb11;go_upto_region 9 with fail
 obtain ⟨W4,hW4⟩:∃ W4,(w12.alloc (Obj.cells #[.int .i64 2,.int .i64 1,.int .i64 1,.int .i64 3,.string ⟨#[120]⟩,.slice ya ym yc,.int .i64 0,.int .i64 0,.bool false] 33)).alloc (Obj.cells #[.int .i64 1,.int .i64 1,.int .i64 1,.int .i64 4,.string ⟨#[97,98,99]⟩,.slice za zm zc,.int .i64 0,.int .i64 0,.bool false] 33)=W4:=⟨_,rfl⟩;have hX3:W4.heap[w12.heap.size]?=some (Obj.cells #[.int .i64 2,.int .i64 1,.int .i64 1,.int .i64 3,.string ⟨#[120]⟩,.slice ya ym yc,.int .i64 0,.int .i64 0,.bool false] 33):=by rw [← hW4];exact (Below.heap_alloc _ _ _ (by simp)).trans (alloc_last _ _ _ rfl)
 have hX4:W4.heap[w12.heap.size+1]?=some (Obj.cells #[.int .i64 1,.int .i64 1,.int .i64 1,.int .i64 4,.string ⟨#[97,98,99]⟩,.slice za zm zc,.int .i64 0,.int .i64 0,.bool false] 33):=by rw [← hW4];exact alloc_last _ _ _ (by simp)
 have hb16:Below w.heap.size w W4:=by rw [← hW4];exact (hb15.alloc hb15.size _).alloc (by have:=hb15.size;simp;omega) _
 rw [hW4];clear hW4;obtain ⟨k3,k4⟩:=box9' hX3;obtain ⟨j3,j4⟩:=box9' hX4;go_wp2_with fail;refine (HN.out _ _).mono ?_;rintro e w13 ⟨rfl,rfl⟩;go_wp2_with fail;refine (HN.out _ _).mono ?_;rintro e w13 ⟨rfl,rfl⟩;go_wp2_with fail;go_ret;exact ⟨rfl,hb16⟩
theorem xformAll_any {a:Option Addr} {n cap:Nat} {w:World} {L:List XOp} (h:Scr w a n cap L) :
  Calls Tryz.prog 8 #[.slice a n cap] w fun e w'=>e=.returned (.bool true)∧Below w.heap.size w w':=by
 have HA:=awake_any w h.bar;have HP:Hid (∀ W,Below w.heap.size w W→Calls Tryz.prog 12 #[.slice a n cap,.int .i64 1,.int .i64 7] W fun e w'=>e=.returned (.bool true)∧Below W.heap.size W w'):=fun W hb=>by
  have h1:=h.below hb
  exact played_any h1.row 1 7 (fun W2 hb2 x hx q1 q2=>by
   have ok:=(h1.ok x hx).below hb2
   have br:=h1.bar.below hb2
   have hk:x.k=1∨x.k=2∨x.k=3∨x.k=4∨x.k=5∨x.k=6∨x.k=7:=by omega
   rcases hk with k|k|k|k|k|k|k
   ·exact plays_1 ok k br
   ·exact plays_2 ok k br
   ·exact plays_3 ok k br
   ·exact plays_runs (.inl k) (fun W3 hb3=>runs_4 (ok.below hb3) k (br.below hb3))
   ·exact plays_runs (.inr (.inl k)) (fun W3 hb3=>runs_5 (ok.below hb3) k (br.below hb3))
   ·exact plays_runs (.inr (.inr k)) (fun W3 hb3=>runs_6 (ok.below hb3) k (br.below hb3))
   ·exact plays_7 ok k br)
 clear h;go_enter Tryz.func8,Tryz.ntmps8;go_wp2_with fail;refine HA.mono ?_;rintro e w2 ⟨rfl,hB2⟩;clear HA;go_wp2_with fail;refine (HP.out _ hB2).mono ?_;rintro e w4 ⟨rfl,hb4⟩;have hB4:=hB2.trans (hb4.mono hB2.size);go_wp2_with fail;go_ret;exact ⟨rfl,hB4⟩
end Go.Proofs.YtmeciikfnbbllaaGreatDoor
namespace Go.Proofs.YtmeciikfnbbllaaGreatDoor
open Go.ChangeShapes Go.WideShapes Go.ChangeAt Go.RowKit
theorem own:ownKnob Tryz.prog.godebug=none:=by kernel_rfl
theorem gBar : Tryz.prog.globalNamed "redraft/utext.barred" = some 0 := by kernel_rfl
theorem gBarType:(Tryz.prog.globals[0]?).map (·.type)=some 98:=by kernel_rfl
theorem cellsArr:Tryz.prog.cellsOf 98=10:=by kernel_rfl
theorem cellsStr:Tryz.prog.cellsOf 97=2:=by kernel_rfl
theorem cells32:Tryz.prog.cellsOf 21=1:=by kernel_rfl
theorem pairCells {H:Type} {enc:TypeId×Value→H} {W:World} {base m:Nat} {sp:Nat→Bool} {held:Bool} {l:List Value} {lo hi:Int} {p:List MemPlace}
  (h:DataW.trod enc Tryz.prog W base sp held m 97 l=some (.agg [.lit (.int .i32 lo),.lit (.int .i32 hi)],p)):l=[.int .i32 lo,.int .i32 hi]:=by
 obtain ⟨y0,y1,n,hx,hl,h0,h1⟩:=trod_struct2 Tryz.underlying97 h;rw [cellsStr] at hl;simp only [cells32] at h0 h1;obtain ⟨a,e0,f0,_⟩:=DataW.trod_int Tryz.underlying21 h0;obtain ⟨b,e1,f1,_⟩:=DataW.trod_int Tryz.underlying21 h1;subst f0 f1;simp only [Prod.mk.injEq,DataW.agg.injEq,List.cons.injEq,DataW.lit.injEq,Lit.int.injEq] at hx;obtain ⟨⟨⟨_,ra⟩,⟨_,rb⟩,_⟩,_⟩:=hx;subst ra rb
 match l,hl,e0,e1 with
 | [x,y],_,e0,e1 =>
  simp at e0 e1;simp [e0,e1]
theorem table {W : World} {cs0 : Array Value} {f0 : Nat} {p0 : List MemPlace} (hv0 : World.var? Tryz.prog W "redraft/utext.barred" = some cs0)
  (hd0:DataW.trod (fun _=>()) Tryz.prog W 0 (fun _=>true) false f0 98 cs0.toList=some (.agg [.agg [.lit (.int .i32 0),.lit (.int .i32 8)],.agg [.lit (.int .i32 11),.lit (.int .i32 31)],.agg [.lit (.int .i32 127),.lit (.int .i32 159)],.agg [.lit (.int .i32 64976),.lit (.int .i32 65007)],.agg [.lit (.int .i32 65279),.lit (.int .i32 65279)]],p0)) :
  ∃ t fr,W.heap[0]?=some (.cells barCells t fr):=by
 obtain ⟨xs,m,_,hx,hlen,hn,hel⟩:=DataW.trod_array Tryz.underlying98 hd0;rw [cellsArr] at hlen;rw [cellsStr] at hel;have hcs:cs0.toList=barCells.toList:=by
  match xs,hn,hx with
  | [x0,x1,x2,x3,x4],_,hx =>
   simp only [Prod.mk.injEq,DataW.agg.injEq,List.map_cons,List.map_nil,List.cons.injEq] at hx;obtain ⟨⟨r0,r1,r2,r3,r4,_⟩,_⟩:=hx;have q0:=pairCells ((hel 0 (by decide)).trans (congrArg some (Prod.ext r0.symm rfl)));have q1:=pairCells ((hel 1 (by decide)).trans (congrArg some (Prod.ext r1.symm rfl)));have q2:=pairCells ((hel 2 (by decide)).trans (congrArg some (Prod.ext r2.symm rfl)));have q3:=pairCells ((hel 3 (by decide)).trans (congrArg some (Prod.ext r3.symm rfl)));have q4:=pairCells ((hel 4 (by decide)).trans (congrArg some (Prod.ext r4.symm rfl)));generalize cs0.toList=l at *
   match l,hlen,q0,q1,q2,q3,q4 with
   | [c0,c1,c2,c3,c4,c5,c6,c7,c8,c9],_,q0,q1,q2,q3,q4 =>
    simp at q0 q1 q2 q3 q4;simp [barCells,q0,q1,q2,q3,q4]
 have hcs':cs0=barCells:=Array.toList_inj.1 hcs;subst hcs';unfold World.var? at hv0;rw [gBar] at hv0;simp only [Option.bind_some] at hv0;split at hv0
 ·rename_i c t fr he
  refine ⟨t,fr,?_⟩;rw [he];simp only [Option.some.injEq] at hv0;rw [hv0]
 ·cases hv0
end Go.Proofs.YtmeciikfnbbllaaGreatDoor
namespace Go.Proofs.YtmeciikfnbbllaaGreatDoor
open Go.ChangeShapes Go.WideShapes Go.ChangeAt Go.RowKit Go.WideMaps Go.WideElems Go.Lib
theorem cellsI64:Tryz.prog.cellsOf 3=1:=by kernel_rfl
theorem cellsKind:Tryz.prog.cellsOf 28=1:=by kernel_rfl
theorem cellsBool:Tryz.prog.cellsOf 4=1:=by kernel_rfl
theorem cellsStrg:Tryz.prog.cellsOf 9=1:=by kernel_rfl
theorem cellsRgs:Tryz.prog.cellsOf 31=1:=by kernel_rfl
theorem cellsRg:Tryz.prog.cellsOf 94=2:=by kernel_rfl
theorem cellsID:Tryz.prog.cellsOf 27=2:=by kernel_rfl
theorem cellsHead:Tryz.prog.cellsOf 30=3:=by kernel_rfl
theorem cellsOp9:Tryz.prog.cellsOf 33=9:=by kernel_rfl
theorem cellsOps:Tryz.prog.cellsOf 43=1:=by kernel_rfl
theorem cellsXop:Tryz.prog.cellsOf 45=24:=by kernel_rfl
theorem list_ofE {α:Type} {P:Nat→α→Prop}:∀ m:Nat,(∀ j,j<m→∃ x,P j x)→∃ l:List α,l.length=m∧∀ (j:Nat) x,l[j]?=some x→P j x
 | 0,_=>⟨[],rfl,fun j x h=>by simp at h⟩
 | m+1,h=>by
  obtain ⟨l,hl,hp⟩:=list_ofE m (fun j hj=>h j (by omega));obtain ⟨x,hx⟩:=h m (by omega);refine ⟨l++[x],by simp [hl],fun j y hy=>?_⟩;by_cases hj:j<l.length
  ·rw [List.getElem?_append_left hj] at hy;exact hp j y hy
  ·rw [List.getElem?_append_right (by omega)] at hy;obtain ⟨hk,rfl⟩:=List.getElem?_eq_some_iff.1 hy;simp at hk;have:j=m:=by omega
   subst this;simpa using hx
theorem rw_of_cells {α:Type} {f:α→List Value} {k:Nat} (hf:Lay f k) {W:World} {a:Addr} {len cap:Nat} {P:α→Prop} (hl:len≤cap) (hm:cap≤maxLen)
  (hel:∀ j,j<len→∃ p:α,P p∧∃ cs,W.cells? 0 (a.add (j*k)) k=some cs∧cs=f p):∃ l:List α,Rw f k W (some a) len cap l∧∀ x∈l,P x:=by
 by_cases h0:len=0
 ·subst h0;exact ⟨[],⟨rfl,⟨hl,hm⟩,fun h=>absurd h (Nat.lt_irrefl _)⟩,fun x hx=>by cases hx⟩
 ·have hk:=hf.pos;obtain ⟨g,off,spot⟩:=a;have hcell:∀ j,j<len→∃ p:α,P p∧∀ i v,(f p)[i]?=some v→W.cell? (((⟨g,off,spot⟩:Addr).add (j*k)).add i)=some v:=fun j hj=>by
   obtain ⟨p,hP,cs,hcs,rfl⟩:=hel j hj;obtain ⟨_,_,hc⟩:=World.cells?_some hcs;refine ⟨p,hP,fun i v hv=>?_⟩;obtain ⟨hi,_⟩:=List.getElem?_eq_some_iff.1 hv;exact (hc i (by rw [hf.len] at hi;exact hi)).trans hv
  have hspot:spot=none:=by
   obtain ⟨p,_,h1⟩:=hcell 0 (by omega);have hlp:0<(f p).length:=by rw [hf.len];exact hk
   have:=h1 0 _ (List.getElem?_eq_getElem hlp);simpa [Addr.add] using World.cell?_spot this
  subst hspot;obtain ⟨l,hll,hp⟩:=list_ofE len hcell;refine ⟨l,⟨hll,⟨hl,hm⟩,fun _=>⟨g,off,rfl,?_,fun j x hj i v hv=>?_⟩⟩,fun x hx=>?_⟩
  ·obtain ⟨p,_,h1⟩:=hcell 0 (by omega);have hlp:0<(f p).length:=by rw [hf.len];exact hk
   exact World.block_lt_of_cell? _ _ (by
    have:=h1 0 _ (List.getElem?_eq_getElem hlp)
    rw [addr_add',addr_add'] at this
    exact this)
  ·have:=(hp j x hj).2 i v hv;rw [addr_add',addr_add'] at this;exact this
  ·obtain ⟨j,hj⟩:=List.getElem?_of_mem hx;exact (hp j x hj).1
theorem open_rg {H:Type} {enc:TypeId×Value→H} {W:World} {fuel:Nat} {cs:List Value} {x:DataW H×List MemPlace}
  (h:DataW.trod enc Tryz.prog W 0 (fun _=>true) true fuel 94 cs=some x):∃ p:Int×Int,cs=rangeV p:=by
 obtain ⟨xs,m,_,hx,hl,hlen,hel⟩:=DataW.trod_struct Tryz.underlying94 h;rw [cellsRg] at hl
 match cs,hl,xs,hlen,hel with
 | [c0,c1],_,[y0,y1],_,hel =>
  have q0:DataW.trod enc Tryz.prog W 0 (fun _=>true) true m 3 [c0]=some y0:=by simpa [cellsI64] using hel 0 _ rfl
  have q1:DataW.trod enc Tryz.prog W 0 (fun _=>true) true m 3 [c1]=some y1:=by simpa [cellsI64] using hel 1 _ rfl
  obtain ⟨x0,e0,_,_⟩:=DataW.trod_int Tryz.underlying3 q0;obtain ⟨x1,e1,_,_⟩:=DataW.trod_int Tryz.underlying3 q1;simp only [List.cons.injEq,and_true] at e0 e1;subst e0 e1;exact ⟨(x0,x1),rfl⟩
theorem bulk_mem {H:Type}:∀ {ds:List (DataW H)} {d:DataW H},d∈ds→Rows.uptoBulk d≤Rows.uptoBulkAll ds
 | [],_,h=>by cases h
 | x::r,d,h=>by
  simp only [Rows.uptoBulkAll];rcases List.mem_cons.1 h with rfl|h
  ·omega
  ·have:=bulk_mem h;omega
theorem bulk_pos {H:Type} (d:DataW H):1≤Rows.uptoBulk d:=by
 cases d with
 | lit l=>cases l<;>simp [Rows.uptoBulk]
 | _=>simp [Rows.uptoBulk]
theorem bulk_len {H:Type}:∀ ds:List (DataW H),ds.length≤Rows.uptoBulkAll ds
 | []=>Nat.zero_le _
 | d::r=>by
  have h1:=bulk_pos d;have h2:=bulk_len r;simp only [Rows.uptoBulkAll,List.length_cons];omega
theorem open_row {H:Type} {enc:TypeId×Value→H} {W:World} {fuel:Nat} {α:Type} {f:α→List Value} {k:Nat} (hf:Lay f k) {S E:TypeId} (hu:Tryz.prog.underlying S=some (.slice E)) (hk:Tryz.prog.cellsOf E=k) {P:α→Prop} {c:Value} {y:DataW H×List MemPlace}
  (h:DataW.trod enc Tryz.prog W 0 (fun _=>true) true fuel S [c]=some y) (hb:Rows.uptoBulk y.1≤1048576)
  (hel:∀ (m:Nat) (cs:List Value) (x:DataW H×List MemPlace),DataW.trod enc Tryz.prog W 0 (fun _=>true) true m E cs=some x→Rows.uptoBulk x.1≤1048576→∃ p,P p∧cs=f p) :
  ∃ a n cap l,c=.slice a n cap∧Rw f k W a n cap l∧n≤1048576∧∀ x∈l,P x:=by
 rcases DataW.trod_slice hu h with ⟨hc,_⟩|⟨a,len,cap,elems,rest,m,_,hc,hx,_,hl,hm,hlen,he1,_,_⟩
 ·simp only [List.cons.injEq,and_true] at hc;exact ⟨none,0,0,[],hc,rw_nil W,by omega,fun x hx=>by cases hx⟩
 ·simp only [List.cons.injEq,and_true] at hc;rw [hx] at hb;simp only [Rows.uptoBulk] at hb;have hle:=bulk_len (elems.map (·.1));rw [List.length_map] at hle
  obtain ⟨L,hr,hP⟩:=rw_of_cells hf hl hm (a:=a) (W:=W) (P:=P) (fun j hj=>by
   have he:=he1 j hj
   rw [List.getElem?_eq_getElem (by omega:j<elems.length),hk] at he
   obtain ⟨cs,hcs,htr⟩:=Option.bind_eq_some_iff.1 he
   have hmem:=(List.mem_map.2 ⟨_,List.getElem_mem (by omega:j<elems.length),rfl⟩:(elems[j]).1∈elems.map (·.1))
   have hbm:=bulk_mem hmem
   obtain ⟨p,hp,hcsp⟩:=hel _ _ _ htr (by omega)
   exact ⟨p,hp,cs,hcs,hcsp⟩)
  exact ⟨some a,len,cap,L,hc,hr,by omega,hP⟩
theorem open_rgs {H:Type} {enc:TypeId×Value→H} {W:World} {fuel:Nat} {c:Value} {y:DataW H×List MemPlace} (h:DataW.trod enc Tryz.prog W 0 (fun _=>true) true fuel 31 [c]=some y) (hb:Rows.uptoBulk y.1≤1048576):∃ a n cap l,c=.slice a n cap∧Rw rangeV 2 W a n cap l∧n≤1048576:=by
 obtain ⟨a,n,cap,l,h1,h2,h3,_⟩:=open_row layG Tryz.underlying31 cellsRg (P:=fun _=>True) h hb (fun _ _ _ hx _=>by
  obtain ⟨p,hp⟩:=open_rg hx
  exact ⟨p,trivial,hp⟩)
 exact ⟨a,n,cap,l,h1,h2,h3⟩
theorem open_id2 {H:Type} {enc:TypeId×Value→H} {W:World} {fuel:Nat} {cs:List Value} {x:DataW H×List MemPlace}
  (h:DataW.trod enc Tryz.prog W 0 (fun _=>true) true fuel 27 cs=some x):∃ a b,cs=[.int .i64 a,.int .i64 b]:=by
 obtain ⟨xs,m,_,hx,hl,hlen,hel⟩:=DataW.trod_array Tryz.underlying27 h;rw [cellsID] at hl;rw [cellsI64] at hel
 match cs,hl,xs,hlen,hx,hel with
 | [c0,c1],_,[y0,y1],_,hx,hel =>
  have q0:DataW.trod enc Tryz.prog W 0 (fun _=>true) true m 3 [c0]=some y0:=by simpa using hel 0 (by decide)
  have q1:DataW.trod enc Tryz.prog W 0 (fun _=>true) true m 3 [c1]=some y1:=by simpa using hel 1 (by decide)
  obtain ⟨a,e0,_,_⟩:=DataW.trod_int Tryz.underlying3 q0;obtain ⟨b,e1,_,_⟩:=DataW.trod_int Tryz.underlying3 q1;simp only [List.cons.injEq,and_true] at e0 e1;subst e0 e1;exact ⟨a,b,rfl⟩
theorem open_head {H:Type} {enc:TypeId×Value→H} {W:World} {fuel:Nat} {cs:List Value} {x:DataW H×List MemPlace}
  (h:DataW.trod enc Tryz.prog W 0 (fun _=>true) true fuel 30 cs=some x):∃ a b k,cs=[.int .i64 a,.int .i64 b,.int .i64 k]:=by
 obtain ⟨xs,m,_,hx,hl,hlen,hel⟩:=DataW.trod_struct Tryz.underlying30 h;rw [cellsHead] at hl
 match cs,hl,xs,hlen,hx,hel with
 | [c0,c1,c2],_,[y0,y1],_,hx,hel =>
  have q0:DataW.trod enc Tryz.prog W 0 (fun _=>true) true m 27 [c0,c1]=some y0:=by simpa [cellsID] using hel 0 _ rfl
  have q1:DataW.trod enc Tryz.prog W 0 (fun _=>true) true m 28 [c2]=some y1:=by simpa [cellsKind] using hel 1 _ rfl
  obtain ⟨a,b,e0⟩:=open_id2 q0;obtain ⟨k,e1,_,_⟩:=DataW.trod_int Tryz.underlying28 q1;simp only [List.cons.injEq,and_true] at e0 e1;obtain ⟨rfl,rfl⟩:=e0;subst e1;exact ⟨a,b,k,rfl⟩
theorem open_op {H:Type} {enc:TypeId×Value→H} {W:World} {fuel:Nat} {cs:List Value} {x:DataW H×List MemPlace}
  (h:DataW.trod enc Tryz.prog W 0 (fun _=>true) true fuel 33 cs=some x) (hb:Rows.uptoBulk x.1≤1048576):∃ y:OpM,OpOk W y∧cs=opF y:=by
 obtain ⟨xs,f,_,hx,hl,hlen,hel⟩:=DataW.trod_struct Tryz.underlying33 h;rw [cellsOp9] at hl
 match cs,hl,xs,hlen,hx,hel with
 | [c0,c1,c2,c3,c4,c5,c6,c7,c8],_,[y0,y1,y2,y3,y4,y5],_,hx,hel =>
  have q0:DataW.trod enc Tryz.prog W 0 (fun _=>true) true f 30 [c0,c1,c2]=some y0:=by simpa [cellsHead] using hel 0 _ rfl
  have q1:DataW.trod enc Tryz.prog W 0 (fun _=>true) true f 3 [c3]=some y1:=by simpa [cellsI64] using hel 1 _ rfl
  have q2:DataW.trod enc Tryz.prog W 0 (fun _=>true) true f 9 [c4]=some y2:=by simpa [cellsStrg] using hel 2 _ rfl
  have q3:DataW.trod enc Tryz.prog W 0 (fun _=>true) true f 31 [c5]=some y3:=by simpa [cellsRgs] using hel 3 _ rfl
  have q4:DataW.trod enc Tryz.prog W 0 (fun _=>true) true f 27 [c6,c7]=some y4:=by simpa [cellsID] using hel 4 _ rfl
  have q5:DataW.trod enc Tryz.prog W 0 (fun _=>true) true f 4 [c8]=some y5:=by simpa [cellsBool] using hel 5 _ rfl
  have hd:x.1=.agg [y0.1,y1.1,y2.1,y3.1,y4.1,y5.1]:=by
   have:=congrArg Prod.fst hx;simpa using this
  rw [hd] at hb;simp only [Rows.uptoBulk,Rows.uptoBulkAll] at hb;obtain ⟨a0,b0,k0,e0⟩:=open_head q0;obtain ⟨p,e1,_,_⟩:=DataW.trod_int Tryz.underlying3 q1;obtain ⟨s,e2,hy2,hs⟩:=DataW.trod_string Tryz.underlying9 q2;obtain ⟨ra,rm,rc,l,e3,hr,hm⟩:=open_rgs q3 (by omega);obtain ⟨ta,tb,e4⟩:=open_id2 q4;obtain ⟨on,e5,_⟩:=DataW.trod_bool Tryz.underlying4 q5;simp only [List.cons.injEq,and_true] at e0 e1 e2 e4 e5;obtain ⟨rfl,rfl,rfl⟩:=e0;obtain ⟨rfl,rfl⟩:=e4;subst e1 e2 e3 e5;have hs2:s.size≤2097152:=by
   rw [hy2] at hb;simp only [Rows.uptoBulk,Array.length_toList] at hb;have e:s.size=s.data.size:=rfl;omega
  exact ⟨(⟨a0,b0,k0,p,s,l,ta,tb,on⟩,(ra,rm,rc)),⟨rng_of_rw hr,hm,hs2⟩,rfl⟩
theorem open_ops {H:Type} {enc:TypeId×Value→H} {W:World} {fuel:Nat} {c:Value} {y:DataW H×List MemPlace} (h:DataW.trod enc Tryz.prog W 0 (fun _=>true) true fuel 43 [c]=some y) (hb:Rows.uptoBulk y.1≤1048576):∃ a n cap l,c=.slice a n cap∧Rw opF 9 W a n cap l∧n≤1048576∧∀ x∈l,OpOk W x :=
 open_row layO Tryz.underlying43 cellsOp9 (P:=OpOk W) h hb (fun _ _ _ hx hb=>open_op hx hb)
theorem open_xop {H:Type} {enc:TypeId×Value→H} {W:World} {fuel:Nat} {cs:List Value} {x:DataW H×List MemPlace}
  (h:DataW.trod enc Tryz.prog W 0 (fun _=>true) true fuel 45 cs=some x) (hb:Rows.uptoBulk x.1≤1048576):∃ y:XOp,XOk W y∧cs=xopF y:=by
 obtain ⟨xs,f,_,hx,hl,hlen,hel⟩:=DataW.trod_struct Tryz.underlying45 h;rw [cellsXop] at hl
 match cs,hl,xs,hlen,hx,hel with
 | [c0,c1,c2,c3,c4,c5,c6,c7,c8,c9,c10,c11,c12,c13,c14,c15,c16,c17,c18,c19,c20,c21,c22,c23],_,[y0,y1,y2,y3,y4,y5,y6,y7],_,hx,hel =>
  have q0:DataW.trod enc Tryz.prog W 0 (fun _=>true) true f 3 [c0]=some y0:=by simpa [cellsI64] using hel 0 _ rfl
  have q1:DataW.trod enc Tryz.prog W 0 (fun _=>true) true f 33 [c1,c2,c3,c4,c5,c6,c7,c8,c9]=some y1:=by simpa [cellsOp9] using hel 1 _ rfl
  have q2:DataW.trod enc Tryz.prog W 0 (fun _=>true) true f 33 [c10,c11,c12,c13,c14,c15,c16,c17,c18]=some y2:=by simpa [cellsOp9] using hel 2 _ rfl
  have q3:DataW.trod enc Tryz.prog W 0 (fun _=>true) true f 43 [c19]=some y3:=by simpa [cellsOps] using hel 3 _ rfl
  have q4:DataW.trod enc Tryz.prog W 0 (fun _=>true) true f 43 [c20]=some y4:=by simpa [cellsOps] using hel 4 _ rfl
  have q5:DataW.trod enc Tryz.prog W 0 (fun _=>true) true f 4 [c21]=some y5:=by simpa [cellsBool] using hel 5 _ rfl
  have q6:DataW.trod enc Tryz.prog W 0 (fun _=>true) true f 3 [c22]=some y6:=by simpa [cellsI64] using hel 6 _ rfl
  have q7:DataW.trod enc Tryz.prog W 0 (fun _=>true) true f 3 [c23]=some y7:=by simpa [cellsI64] using hel 7 _ rfl
  have hd:x.1=.agg [y0.1,y1.1,y2.1,y3.1,y4.1,y5.1,y6.1,y7.1]:=by
   have:=congrArg Prod.fst hx;simpa using this
  rw [hd] at hb;simp only [Rows.uptoBulk,Rows.uptoBulkAll] at hb;obtain ⟨k,e0,_,_⟩:=DataW.trod_int Tryz.underlying3 q0;obtain ⟨⟨o1,a1,m1,p1⟩,ok1,e1⟩:=open_op q1 (by omega);obtain ⟨⟨o2,a2,m2,p2⟩,ok2,e2⟩:=open_op q2 (by omega);obtain ⟨ra,rm,rc,R,e3,hr,hrm,hR⟩:=open_ops q3 (by omega);obtain ⟨sa,sm,sc,S,e4,hs,hsm,hS⟩:=open_ops q4 (by omega);obtain ⟨e,e5,_⟩:=DataW.trod_bool Tryz.underlying4 q5;obtain ⟨n,e6,_,_⟩:=DataW.trod_int Tryz.underlying3 q6;obtain ⟨m,e7,_,_⟩:=DataW.trod_int Tryz.underlying3 q7;refine ⟨⟨k,o1,a1,m1,p1,o2,a2,m2,p2,ra,rm,rc,R,sa,sm,sc,S,e,n,m⟩,⟨ok1,ok2,hr,hR,hs,hS,hrm,hsm⟩,?_⟩;have e:[c0,c1,c2,c3,c4,c5,c6,c7,c8,c9,c10,c11,c12,c13,c14,c15,c16,c17,c18,c19,c20,c21,c22,c23]=[c0]++[c1,c2,c3,c4,c5,c6,c7,c8,c9]++[c10,c11,c12,c13,c14,c15,c16,c17,c18]++[c19]++[c20]++[c21]++[c22]++[c23]:=rfl;rw [e,e0,e1,e2,e3,e4,e5,e6,e7];rfl
theorem open_scr {H:Type} {enc:TypeId×Value→H} {W:World} {base:Nat} {v:Value} {d:DataW H} {p:List MemPlace}
  (hv:Value.okWide Tryz.prog W .any base 22 v) (h:DataW.Trod enc Tryz.prog W 0 (fun _=>true) true 22 v d p) (hb:Rows.uptoBulk d≤1048576) :
  ∃ (a:Option Addr) (n cap:Nat) (L:List XOp),v=.slice a n cap∧Rw xopF 24 W a n cap L∧∀ x∈L,XOk W x:=by
 obtain ⟨a0,n0,c0,rfl⟩:=okWide_slice Tryz.underlying22 hv;obtain ⟨fuel,hf⟩:=h;obtain ⟨a,n,cap,L,e,h1,_,h3⟩:=open_row (P:=XOk W) layXo Tryz.underlying22 cellsXop hf hb (fun _ _ _ hx hb=>open_xop hx hb);exact ⟨a,n,cap,L,e,h1,h3⟩
end Go.Proofs.YtmeciikfnbbllaaGreatDoor
