import Derived.Test.YtijpfbcippijoaaGreatDoorAl
import Derived.Test.YtijpfbcippijoaaGreatDoorGr143
import Derived.Deep.RegionHeld3
set_option maxHeartbeats 4000000
set_option maxRecDepth 100000
namespace Go.Proofs.YtijpfbcippijoaaGreatDoor
open Go.RowKit Go.Lib
def fixR (r:Int):Int:=if r=10∨(32≤r∧r≤126)∨(161≤r∧r≤55295) then r else 97
def fixH (h:Int):Int:=if 0≤h∧h≤1048576 then h else 0
def fixC (x:Int×Int):Int×Int:=(fixR x.1,fixH x.2)
def madeP (zs:List (Int×Int)):List (Int×Int):=(zs.take 400).map fixC
theorem made_next (zs:List (Int×Int)) (j:Nat) (x:Int×Int) (h:zs[j]?=some x):(zs.take j).map fixC++[fixC x]=(zs.take (j+1)).map fixC:=by
 obtain ⟨hj,rfl⟩:=List.getElem?_eq_some_iff.1 h;rw [List.take_succ_eq_append_getElem hj,List.map_append];rfl
theorem made_any {w:World} {a:Option Addr} {n cap:Nat} {zs:List (Int×Int)} (h:Rw cellV 2 w a n cap zs) :
  Calls Tryz.prog 7 #[.slice a n cap] w fun e w'=>∃ v,e=.returned v∧OwnF cellV 2 63 w' w.heap.size v (madeP zs)∧Below w.heap.size w w':=by
 have hlen:=h.len;have hroom:=h.room;have hn:n≤9223372036854775807:=by simp only [maxLen] at hroom;omega
 go_enter Tryz.func7,Tryz.ntmps7;go_wp2_with fail;go_loopw [3,4,5] (fun v vi _ W=>∃ j:Nat,vi=.int .i64 j∧j≤n∧j≤400∧OwnF cellV 2 63 W w.heap.size v ((zs.take j).map fixC)∧Below w.heap.size w W) (fun _ vi _ _=>n-(RowKit.intOf vi).toNat)
 case atStart=>exact ⟨0,rfl,Nat.zero_le _,by omega,ownF_nil _ _,bE _ _⟩
 case round =>
  obtain ⟨j,rfl,hjn,hj4,ho,hB⟩:=hrel;by_cases hj:j<n∧j<400
  ·obtain ⟨hj1,hj2⟩:=hj;have b1:(j:Int)<(n:Int):=by omega
   have b2:(j:Int)<400:=by omega
   have b0:(0:Int)≤(j:Int):=by omega
   obtain ⟨g,off,x,rfl,hg,hx,hc⟩:=h.at j hj1;have c0:=(hB.cell (p:=⟨g,off+j*2+0,none⟩) hg).trans (hc 0 _ rfl);have c1:=(hB.cell (p:=⟨g,off+j*2+1,none⟩) hg).trans (hc 1 _ rfl);simp only [Nat.add_zero] at c0;have HX:Hid ((zs.take j).map fixC++[fixC x]=(zs.take (j+1)).map fixC):=made_next zs j x hx;clear hc hx;obtain ⟨r,hd⟩:=x;simp only at c0 c1;have hl2:((zs.take j).map fixC).length=j:=by simp;omega
   generalize (zs.take j).map fixC=acc at *;obtain ⟨ao,co,rfl⟩:=ho.shape;go_wp2_with fail;have q0:=fun o=>(World.cell?_alloc_lt wr o ⟨g,off+j*2,none⟩ (by have:=hB.size;simp only;omega)).trans c0
   have q1:=fun o=>(World.cell?_alloc_lt wr o ⟨g,off+j*2+1,none⟩ (by have:=hB.size;simp only;omega)).trans c1
   go_region_held3 (fun W=>W.cell? ⟨g,off+j*2,none⟩=some (.int .i32 r)∧W.cell? ⟨g,off+j*2+1,none⟩=some (.int .i64 hd)) (first|exact ⟨c0,c1⟩|exact ⟨q0 _,q1 _⟩)
    (first
     | fail)
   all_goals
    have hY:Below wr.heap.size wr (wr.alloc (Obj.cells #[.int .i32 r,.int .i64 hd] 63)).drew:=((bE wr.heap.size wr).alloc (lR _) _).drew;have hbx:(wr.alloc (Obj.cells #[.int .i32 r,.int .i64 hd] 63)).drew.heap[wr.heap.size]?=some (Obj.cells #[.int .i32 r,.int .i64 hd] 63):=by show (wr.heap.push _)[wr.heap.size]?=_;simp
    generalize (wr.alloc (Obj.cells #[.int .i32 r,.int .i64 hd] 63)).drew=Y at *;have m0:Y.cell? ⟨wr.heap.size,0,none⟩=some (.int .i32 r):=by rw [cH hbx];rfl
    have m1:Y.cell? ⟨wr.heap.size,1,none⟩=some (.int .i64 hd):=by rw [cH hbx];rfl
    have z0:Y.frozen? ⟨wr.heap.size,0,none⟩=false:=Lib.frozen_of_heap hbx 0;have z1:Y.frozen? ⟨wr.heap.size,1,none⟩=false:=Lib.frozen_of_heap hbx 1;have hBs:=hB.size;clear q0 q1 c0 c1;have hcs:r=10∨(32≤r∧r≤126)∨(161≤r∧r≤55295)∨(r<32∧¬ r=10)∨(127≤r∧r<161)∨55295<r:=by omega
    have hhs:(0≤hd∧hd≤1048576)∨hd<0∨1048576<hd:=by omega
    rcases hcs with rfl|⟨e1,e2⟩|⟨e1,e2⟩|⟨e1,e2⟩|⟨e1,e2⟩|e1
    ·rcases hhs with ⟨e3,e4⟩|e3|e3
     ·skip
      have hfx:fixC (10,hd)=(10,hd):=by unfold fixC fixR fixH;rw [if_pos (.inl rfl),if_pos (by simp only;omega)]
      rw [hfx] at HX;have hW:Below wr.heap.size wr Y:=hY;obtain ⟨g5,cap5,w6,hr,ho6,hb6,_,_⟩:=appendF_one kindC layC (ho.below hW) (by have:=hW.size;omega) (10,hd) #[.int .i32 10,.int .i64 hd] rfl 63 (by omega) (by omega) 29;have hb7:Below w.heap.size w w6:=(hB.trans (hW.mono hBs)).trans hb6;rw [HX.out] at ho6;rw [hl2] at hr ho6;clear hb6 ho hB hY hW hfx;go_wp2_with (at_builtin;refine wpList_append_hr rfl _ _ 29 rfl _ _ rfl rfl hr ?_);go_roundw
      case rel=>exact ⟨j+1,by go_num,by omega,by omega,ho6,hb7⟩
      case measure=>simp [RowKit.intOf];omega
     ·skip
      have hfx:fixC (10,hd)=(10,0):=by unfold fixC fixR fixH;rw [if_pos (.inl rfl),if_neg (by simp only;omega)]
      rw [hfx] at HX;obtain ⟨Wx,hWx⟩:∃ Wx,(Y.setCell ⟨wr.heap.size,1,none⟩ (.int .i64 0))=Wx:=⟨_,rfl⟩;have hW:Below wr.heap.size wr Wx:=hWx▸(hY.setCell (p:=⟨wr.heap.size,1,none⟩) (lR _) (.int .i64 0));have y1:=(heap_setCell_same _ wr.heap.size 1 _ _ (.int .i64 0) hbx).trans (by simp;rfl);rw [hWx] at y1;have n0:=cH y1 0;have n1:=cH y1 1;simp at n0 n1;obtain ⟨g5,cap5,w6,hr,ho6,hb6,_,_⟩:=appendF_one kindC layC (ho.below hW) (by have:=hW.size;omega) (10,0) #[.int .i32 10,.int .i64 0] rfl 63 (by omega) (by omega) 29;have hb7:Below w.heap.size w w6:=(hB.trans (hW.mono hBs)).trans hb6;rw [HX.out] at ho6;rw [hl2] at hr ho6;clear hb6 ho hB hY hW hfx;go_wp2_with (at_builtin;refine wpList_append_hr rfl _ _ 29 rfl _ _ rfl rfl hr ?_);go_roundw
      case rel=>exact ⟨j+1,by go_num,by omega,by omega,ho6,hb7⟩
      case measure=>simp [RowKit.intOf];omega
     ·skip
      have hfx:fixC (10,hd)=(10,0):=by unfold fixC fixR fixH;rw [if_pos (.inl rfl),if_neg (by simp only;omega)]
      rw [hfx] at HX;obtain ⟨Wx,hWx⟩:∃ Wx,(Y.setCell ⟨wr.heap.size,1,none⟩ (.int .i64 0))=Wx:=⟨_,rfl⟩;have hW:Below wr.heap.size wr Wx:=hWx▸(hY.setCell (p:=⟨wr.heap.size,1,none⟩) (lR _) (.int .i64 0));have y1:=(heap_setCell_same _ wr.heap.size 1 _ _ (.int .i64 0) hbx).trans (by simp;rfl);rw [hWx] at y1;have n0:=cH y1 0;have n1:=cH y1 1;simp at n0 n1;obtain ⟨g5,cap5,w6,hr,ho6,hb6,_,_⟩:=appendF_one kindC layC (ho.below hW) (by have:=hW.size;omega) (10,0) #[.int .i32 10,.int .i64 0] rfl 63 (by omega) (by omega) 29;have hb7:Below w.heap.size w w6:=(hB.trans (hW.mono hBs)).trans hb6;rw [HX.out] at ho6;rw [hl2] at hr ho6;clear hb6 ho hB hY hW hfx;go_wp2_with (at_builtin;refine wpList_append_hr rfl _ _ 29 rfl _ _ rfl rfl hr ?_);go_roundw
      case rel=>exact ⟨j+1,by go_num,by omega,by omega,ho6,hb7⟩
      case measure=>simp [RowKit.intOf];omega
    ·rcases hhs with ⟨e3,e4⟩|e3|e3
     ·skip
      have t1:(r==10)=false:=nB (by omega);have t2:decide (r=10)=false:=decide_eq_false (by omega);have t3:¬ r=10:=by omega
      have t4:(r != 10)=true:=by simp;omega
      have hfx:fixC (r,hd)=(r,hd):=by unfold fixC fixR fixH;rw [if_pos (by simp only;omega),if_pos (by simp only;omega)]
      rw [hfx] at HX;have hW:Below wr.heap.size wr Y:=hY;obtain ⟨g5,cap5,w6,hr,ho6,hb6,_,_⟩:=appendF_one kindC layC (ho.below hW) (by have:=hW.size;omega) (r,hd) #[.int .i32 r,.int .i64 hd] rfl 63 (by omega) (by omega) 29;have hb7:Below w.heap.size w w6:=(hB.trans (hW.mono hBs)).trans hb6;rw [HX.out] at ho6;rw [hl2] at hr ho6;clear hb6 ho hB hY hW hfx;go_wp2_with (at_builtin;refine wpList_append_hr rfl _ _ 29 rfl _ _ rfl rfl hr ?_);go_roundw
      case rel=>exact ⟨j+1,by go_num,by omega,by omega,ho6,hb7⟩
      case measure=>simp [RowKit.intOf];omega
     ·skip
      have t1:(r==10)=false:=nB (by omega);have t2:decide (r=10)=false:=decide_eq_false (by omega);have t3:¬ r=10:=by omega
      have t4:(r != 10)=true:=by simp;omega
      have hfx:fixC (r,hd)=(r,0):=by unfold fixC fixR fixH;rw [if_pos (by simp only;omega),if_neg (by simp only;omega)]
      rw [hfx] at HX;obtain ⟨Wx,hWx⟩:∃ Wx,(Y.setCell ⟨wr.heap.size,1,none⟩ (.int .i64 0))=Wx:=⟨_,rfl⟩;have hW:Below wr.heap.size wr Wx:=hWx▸(hY.setCell (p:=⟨wr.heap.size,1,none⟩) (lR _) (.int .i64 0));have y1:=(heap_setCell_same _ wr.heap.size 1 _ _ (.int .i64 0) hbx).trans (by simp;rfl);rw [hWx] at y1;have n0:=cH y1 0;have n1:=cH y1 1;simp at n0 n1;obtain ⟨g5,cap5,w6,hr,ho6,hb6,_,_⟩:=appendF_one kindC layC (ho.below hW) (by have:=hW.size;omega) (r,0) #[.int .i32 r,.int .i64 0] rfl 63 (by omega) (by omega) 29;have hb7:Below w.heap.size w w6:=(hB.trans (hW.mono hBs)).trans hb6;rw [HX.out] at ho6;rw [hl2] at hr ho6;clear hb6 ho hB hY hW hfx;go_wp2_with (at_builtin;refine wpList_append_hr rfl _ _ 29 rfl _ _ rfl rfl hr ?_);go_roundw
      case rel=>exact ⟨j+1,by go_num,by omega,by omega,ho6,hb7⟩
      case measure=>simp [RowKit.intOf];omega
     ·skip
      have t1:(r==10)=false:=nB (by omega);have t2:decide (r=10)=false:=decide_eq_false (by omega);have t3:¬ r=10:=by omega
      have t4:(r != 10)=true:=by simp;omega
      have hfx:fixC (r,hd)=(r,0):=by unfold fixC fixR fixH;rw [if_pos (by simp only;omega),if_neg (by simp only;omega)]
      rw [hfx] at HX;obtain ⟨Wx,hWx⟩:∃ Wx,(Y.setCell ⟨wr.heap.size,1,none⟩ (.int .i64 0))=Wx:=⟨_,rfl⟩;have hW:Below wr.heap.size wr Wx:=hWx▸(hY.setCell (p:=⟨wr.heap.size,1,none⟩) (lR _) (.int .i64 0));have y1:=(heap_setCell_same _ wr.heap.size 1 _ _ (.int .i64 0) hbx).trans (by simp;rfl);rw [hWx] at y1;have n0:=cH y1 0;have n1:=cH y1 1;simp at n0 n1;obtain ⟨g5,cap5,w6,hr,ho6,hb6,_,_⟩:=appendF_one kindC layC (ho.below hW) (by have:=hW.size;omega) (r,0) #[.int .i32 r,.int .i64 0] rfl 63 (by omega) (by omega) 29;have hb7:Below w.heap.size w w6:=(hB.trans (hW.mono hBs)).trans hb6;rw [HX.out] at ho6;rw [hl2] at hr ho6;clear hb6 ho hB hY hW hfx;go_wp2_with (at_builtin;refine wpList_append_hr rfl _ _ 29 rfl _ _ rfl rfl hr ?_);go_roundw
      case rel=>exact ⟨j+1,by go_num,by omega,by omega,ho6,hb7⟩
      case measure=>simp [RowKit.intOf];omega
    ·rcases hhs with ⟨e3,e4⟩|e3|e3
     ·skip
      have t1:(r==10)=false:=nB (by omega);have t2:decide (r=10)=false:=decide_eq_false (by omega);have t3:¬ r=10:=by omega
      have t4:(r != 10)=true:=by simp;omega
      have hfx:fixC (r,hd)=(r,hd):=by unfold fixC fixR fixH;rw [if_pos (by simp only;omega),if_pos (by simp only;omega)]
      rw [hfx] at HX;have hW:Below wr.heap.size wr Y:=hY;obtain ⟨g5,cap5,w6,hr,ho6,hb6,_,_⟩:=appendF_one kindC layC (ho.below hW) (by have:=hW.size;omega) (r,hd) #[.int .i32 r,.int .i64 hd] rfl 63 (by omega) (by omega) 29;have hb7:Below w.heap.size w w6:=(hB.trans (hW.mono hBs)).trans hb6;rw [HX.out] at ho6;rw [hl2] at hr ho6;clear hb6 ho hB hY hW hfx;go_wp2_with (at_builtin;refine wpList_append_hr rfl _ _ 29 rfl _ _ rfl rfl hr ?_);go_roundw
      case rel=>exact ⟨j+1,by go_num,by omega,by omega,ho6,hb7⟩
      case measure=>simp [RowKit.intOf];omega
     ·skip
      have t1:(r==10)=false:=nB (by omega);have t2:decide (r=10)=false:=decide_eq_false (by omega);have t3:¬ r=10:=by omega
      have t4:(r != 10)=true:=by simp;omega
      have hfx:fixC (r,hd)=(r,0):=by unfold fixC fixR fixH;rw [if_pos (by simp only;omega),if_neg (by simp only;omega)]
      rw [hfx] at HX;obtain ⟨Wx,hWx⟩:∃ Wx,(Y.setCell ⟨wr.heap.size,1,none⟩ (.int .i64 0))=Wx:=⟨_,rfl⟩;have hW:Below wr.heap.size wr Wx:=hWx▸(hY.setCell (p:=⟨wr.heap.size,1,none⟩) (lR _) (.int .i64 0));have y1:=(heap_setCell_same _ wr.heap.size 1 _ _ (.int .i64 0) hbx).trans (by simp;rfl);rw [hWx] at y1;have n0:=cH y1 0;have n1:=cH y1 1;simp at n0 n1;obtain ⟨g5,cap5,w6,hr,ho6,hb6,_,_⟩:=appendF_one kindC layC (ho.below hW) (by have:=hW.size;omega) (r,0) #[.int .i32 r,.int .i64 0] rfl 63 (by omega) (by omega) 29;have hb7:Below w.heap.size w w6:=(hB.trans (hW.mono hBs)).trans hb6;rw [HX.out] at ho6;rw [hl2] at hr ho6;clear hb6 ho hB hY hW hfx;go_wp2_with (at_builtin;refine wpList_append_hr rfl _ _ 29 rfl _ _ rfl rfl hr ?_);go_roundw
      case rel=>exact ⟨j+1,by go_num,by omega,by omega,ho6,hb7⟩
      case measure=>simp [RowKit.intOf];omega
     ·skip
      have t1:(r==10)=false:=nB (by omega);have t2:decide (r=10)=false:=decide_eq_false (by omega);have t3:¬ r=10:=by omega
      have t4:(r != 10)=true:=by simp;omega
      have hfx:fixC (r,hd)=(r,0):=by unfold fixC fixR fixH;rw [if_pos (by simp only;omega),if_neg (by simp only;omega)]
      rw [hfx] at HX;obtain ⟨Wx,hWx⟩:∃ Wx,(Y.setCell ⟨wr.heap.size,1,none⟩ (.int .i64 0))=Wx:=⟨_,rfl⟩;have hW:Below wr.heap.size wr Wx:=hWx▸(hY.setCell (p:=⟨wr.heap.size,1,none⟩) (lR _) (.int .i64 0));have y1:=(heap_setCell_same _ wr.heap.size 1 _ _ (.int .i64 0) hbx).trans (by simp;rfl);rw [hWx] at y1;have n0:=cH y1 0;have n1:=cH y1 1;simp at n0 n1;obtain ⟨g5,cap5,w6,hr,ho6,hb6,_,_⟩:=appendF_one kindC layC (ho.below hW) (by have:=hW.size;omega) (r,0) #[.int .i32 r,.int .i64 0] rfl 63 (by omega) (by omega) 29;have hb7:Below w.heap.size w w6:=(hB.trans (hW.mono hBs)).trans hb6;rw [HX.out] at ho6;rw [hl2] at hr ho6;clear hb6 ho hB hY hW hfx;go_wp2_with (at_builtin;refine wpList_append_hr rfl _ _ 29 rfl _ _ rfl rfl hr ?_);go_roundw
      case rel=>exact ⟨j+1,by go_num,by omega,by omega,ho6,hb7⟩
      case measure=>simp [RowKit.intOf];omega
    ·rcases hhs with ⟨e3,e4⟩|e3|e3
     ·skip
      have t1:(r==10)=false:=nB (by omega);have t2:decide (r=10)=false:=decide_eq_false (by omega);have t3:¬ r=10:=by omega
      have t4:(r != 10)=true:=by simp;omega
      have hfx:fixC (r,hd)=(97,hd):=by unfold fixC fixR fixH;rw [if_neg (by simp only;omega),if_pos (by simp only;omega)]
      rw [hfx] at HX;obtain ⟨Wx,hWx⟩:∃ Wx,(Y.setCell ⟨wr.heap.size,0,none⟩ (.int .i32 97))=Wx:=⟨_,rfl⟩;have hW:Below wr.heap.size wr Wx:=hWx▸(hY.setCell (p:=⟨wr.heap.size,0,none⟩) (lR _) (.int .i32 97));have y0:=(heap_setCell_same _ wr.heap.size 0 _ _ (.int .i32 97) hbx).trans (by simp;rfl);rw [hWx] at y0;have n0:=cH y0 0;have n1:=cH y0 1;simp at n0 n1;obtain ⟨g5,cap5,w6,hr,ho6,hb6,_,_⟩:=appendF_one kindC layC (ho.below hW) (by have:=hW.size;omega) (97,hd) #[.int .i32 97,.int .i64 hd] rfl 63 (by omega) (by omega) 29;have hb7:Below w.heap.size w w6:=(hB.trans (hW.mono hBs)).trans hb6;rw [HX.out] at ho6;rw [hl2] at hr ho6;clear hb6 ho hB hY hW hfx;go_wp2_with (at_builtin;refine wpList_append_hr rfl _ _ 29 rfl _ _ rfl rfl hr ?_);go_roundw
      case rel=>exact ⟨j+1,by go_num,by omega,by omega,ho6,hb7⟩
      case measure=>simp [RowKit.intOf];omega
     ·skip
      have t1:(r==10)=false:=nB (by omega);have t2:decide (r=10)=false:=decide_eq_false (by omega);have t3:¬ r=10:=by omega
      have t4:(r != 10)=true:=by simp;omega
      have hfx:fixC (r,hd)=(97,0):=by unfold fixC fixR fixH;rw [if_neg (by simp only;omega),if_neg (by simp only;omega)]
      rw [hfx] at HX;obtain ⟨Wx,hWx⟩:∃ Wx,((Y.setCell ⟨wr.heap.size,0,none⟩ (.int .i32 97)).setCell ⟨wr.heap.size,1,none⟩ (.int .i64 0))=Wx:=⟨_,rfl⟩;have hW:Below wr.heap.size wr Wx:=hWx▸((hY.setCell (p:=⟨wr.heap.size,0,none⟩) (lR _) (.int .i32 97)).setCell (p:=⟨wr.heap.size,1,none⟩) (lR _) (.int .i64 0));have y0:=(heap_setCell_same _ wr.heap.size 0 _ _ (.int .i32 97) hbx).trans (by simp;rfl);have y1:=(heap_setCell_same _ wr.heap.size 1 _ _ (.int .i64 0) y0).trans (by simp;rfl);rw [hWx] at y1;have n0:=cH y1 0;have n1:=cH y1 1;simp at n0 n1;obtain ⟨g5,cap5,w6,hr,ho6,hb6,_,_⟩:=appendF_one kindC layC (ho.below hW) (by have:=hW.size;omega) (97,0) #[.int .i32 97,.int .i64 0] rfl 63 (by omega) (by omega) 29;have hb7:Below w.heap.size w w6:=(hB.trans (hW.mono hBs)).trans hb6;rw [HX.out] at ho6;rw [hl2] at hr ho6;clear hb6 ho hB hY hW hfx;go_wp2_with (at_builtin;refine wpList_append_hr rfl _ _ 29 rfl _ _ rfl rfl hr ?_);go_roundw
      case rel=>exact ⟨j+1,by go_num,by omega,by omega,ho6,hb7⟩
      case measure=>simp [RowKit.intOf];omega
     ·skip
      have t1:(r==10)=false:=nB (by omega);have t2:decide (r=10)=false:=decide_eq_false (by omega);have t3:¬ r=10:=by omega
      have t4:(r != 10)=true:=by simp;omega
      have hfx:fixC (r,hd)=(97,0):=by unfold fixC fixR fixH;rw [if_neg (by simp only;omega),if_neg (by simp only;omega)]
      rw [hfx] at HX;obtain ⟨Wx,hWx⟩:∃ Wx,((Y.setCell ⟨wr.heap.size,0,none⟩ (.int .i32 97)).setCell ⟨wr.heap.size,1,none⟩ (.int .i64 0))=Wx:=⟨_,rfl⟩;have hW:Below wr.heap.size wr Wx:=hWx▸((hY.setCell (p:=⟨wr.heap.size,0,none⟩) (lR _) (.int .i32 97)).setCell (p:=⟨wr.heap.size,1,none⟩) (lR _) (.int .i64 0));have y0:=(heap_setCell_same _ wr.heap.size 0 _ _ (.int .i32 97) hbx).trans (by simp;rfl);have y1:=(heap_setCell_same _ wr.heap.size 1 _ _ (.int .i64 0) y0).trans (by simp;rfl);rw [hWx] at y1;have n0:=cH y1 0;have n1:=cH y1 1;simp at n0 n1;obtain ⟨g5,cap5,w6,hr,ho6,hb6,_,_⟩:=appendF_one kindC layC (ho.below hW) (by have:=hW.size;omega) (97,0) #[.int .i32 97,.int .i64 0] rfl 63 (by omega) (by omega) 29;have hb7:Below w.heap.size w w6:=(hB.trans (hW.mono hBs)).trans hb6;rw [HX.out] at ho6;rw [hl2] at hr ho6;clear hb6 ho hB hY hW hfx;go_wp2_with (at_builtin;refine wpList_append_hr rfl _ _ 29 rfl _ _ rfl rfl hr ?_);go_roundw
      case rel=>exact ⟨j+1,by go_num,by omega,by omega,ho6,hb7⟩
      case measure=>simp [RowKit.intOf];omega
    ·rcases hhs with ⟨e3,e4⟩|e3|e3
     ·skip
      have t1:(r==10)=false:=nB (by omega);have t2:decide (r=10)=false:=decide_eq_false (by omega);have t3:¬ r=10:=by omega
      have t4:(r != 10)=true:=by simp;omega
      have q2:¬ r<32:=by omega
      have q3:126<r:=by omega
      have hfx:fixC (r,hd)=(97,hd):=by unfold fixC fixR fixH;rw [if_neg (by simp only;omega),if_pos (by simp only;omega)]
      rw [hfx] at HX;obtain ⟨Wx,hWx⟩:∃ Wx,(Y.setCell ⟨wr.heap.size,0,none⟩ (.int .i32 97))=Wx:=⟨_,rfl⟩;have hW:Below wr.heap.size wr Wx:=hWx▸(hY.setCell (p:=⟨wr.heap.size,0,none⟩) (lR _) (.int .i32 97));have y0:=(heap_setCell_same _ wr.heap.size 0 _ _ (.int .i32 97) hbx).trans (by simp;rfl);rw [hWx] at y0;have n0:=cH y0 0;have n1:=cH y0 1;simp at n0 n1;obtain ⟨g5,cap5,w6,hr,ho6,hb6,_,_⟩:=appendF_one kindC layC (ho.below hW) (by have:=hW.size;omega) (97,hd) #[.int .i32 97,.int .i64 hd] rfl 63 (by omega) (by omega) 29;have hb7:Below w.heap.size w w6:=(hB.trans (hW.mono hBs)).trans hb6;rw [HX.out] at ho6;rw [hl2] at hr ho6;clear hb6 ho hB hY hW hfx;go_wp2_with (at_builtin;refine wpList_append_hr rfl _ _ 29 rfl _ _ rfl rfl hr ?_);go_roundw
      case rel=>exact ⟨j+1,by go_num,by omega,by omega,ho6,hb7⟩
      case measure=>simp [RowKit.intOf];omega
     ·skip
      have t1:(r==10)=false:=nB (by omega);have t2:decide (r=10)=false:=decide_eq_false (by omega);have t3:¬ r=10:=by omega
      have t4:(r != 10)=true:=by simp;omega
      have q2:¬ r<32:=by omega
      have q3:126<r:=by omega
      have hfx:fixC (r,hd)=(97,0):=by unfold fixC fixR fixH;rw [if_neg (by simp only;omega),if_neg (by simp only;omega)]
      rw [hfx] at HX;obtain ⟨Wx,hWx⟩:∃ Wx,((Y.setCell ⟨wr.heap.size,0,none⟩ (.int .i32 97)).setCell ⟨wr.heap.size,1,none⟩ (.int .i64 0))=Wx:=⟨_,rfl⟩;have hW:Below wr.heap.size wr Wx:=hWx▸((hY.setCell (p:=⟨wr.heap.size,0,none⟩) (lR _) (.int .i32 97)).setCell (p:=⟨wr.heap.size,1,none⟩) (lR _) (.int .i64 0));have y0:=(heap_setCell_same _ wr.heap.size 0 _ _ (.int .i32 97) hbx).trans (by simp;rfl);have y1:=(heap_setCell_same _ wr.heap.size 1 _ _ (.int .i64 0) y0).trans (by simp;rfl);rw [hWx] at y1;have n0:=cH y1 0;have n1:=cH y1 1;simp at n0 n1;obtain ⟨g5,cap5,w6,hr,ho6,hb6,_,_⟩:=appendF_one kindC layC (ho.below hW) (by have:=hW.size;omega) (97,0) #[.int .i32 97,.int .i64 0] rfl 63 (by omega) (by omega) 29;have hb7:Below w.heap.size w w6:=(hB.trans (hW.mono hBs)).trans hb6;rw [HX.out] at ho6;rw [hl2] at hr ho6;clear hb6 ho hB hY hW hfx;go_wp2_with (at_builtin;refine wpList_append_hr rfl _ _ 29 rfl _ _ rfl rfl hr ?_);go_roundw
      case rel=>exact ⟨j+1,by go_num,by omega,by omega,ho6,hb7⟩
      case measure=>simp [RowKit.intOf];omega
     ·skip
      have t1:(r==10)=false:=nB (by omega);have t2:decide (r=10)=false:=decide_eq_false (by omega);have t3:¬ r=10:=by omega
      have t4:(r != 10)=true:=by simp;omega
      have q2:¬ r<32:=by omega
      have q3:126<r:=by omega
      have hfx:fixC (r,hd)=(97,0):=by unfold fixC fixR fixH;rw [if_neg (by simp only;omega),if_neg (by simp only;omega)]
      rw [hfx] at HX;obtain ⟨Wx,hWx⟩:∃ Wx,((Y.setCell ⟨wr.heap.size,0,none⟩ (.int .i32 97)).setCell ⟨wr.heap.size,1,none⟩ (.int .i64 0))=Wx:=⟨_,rfl⟩;have hW:Below wr.heap.size wr Wx:=hWx▸((hY.setCell (p:=⟨wr.heap.size,0,none⟩) (lR _) (.int .i32 97)).setCell (p:=⟨wr.heap.size,1,none⟩) (lR _) (.int .i64 0));have y0:=(heap_setCell_same _ wr.heap.size 0 _ _ (.int .i32 97) hbx).trans (by simp;rfl);have y1:=(heap_setCell_same _ wr.heap.size 1 _ _ (.int .i64 0) y0).trans (by simp;rfl);rw [hWx] at y1;have n0:=cH y1 0;have n1:=cH y1 1;simp at n0 n1;obtain ⟨g5,cap5,w6,hr,ho6,hb6,_,_⟩:=appendF_one kindC layC (ho.below hW) (by have:=hW.size;omega) (97,0) #[.int .i32 97,.int .i64 0] rfl 63 (by omega) (by omega) 29;have hb7:Below w.heap.size w w6:=(hB.trans (hW.mono hBs)).trans hb6;rw [HX.out] at ho6;rw [hl2] at hr ho6;clear hb6 ho hB hY hW hfx;go_wp2_with (at_builtin;refine wpList_append_hr rfl _ _ 29 rfl _ _ rfl rfl hr ?_);go_roundw
      case rel=>exact ⟨j+1,by go_num,by omega,by omega,ho6,hb7⟩
      case measure=>simp [RowKit.intOf];omega
    ·rcases hhs with ⟨e3,e4⟩|e3|e3
     ·skip
      have t1:(r==10)=false:=nB (by omega);have t2:decide (r=10)=false:=decide_eq_false (by omega);have t3:¬ r=10:=by omega
      have t4:(r != 10)=true:=by simp;omega
      have q2:¬ r<32:=by omega
      have q3:126<r:=by omega
      have q4:¬ r<161:=by omega
      have hfx:fixC (r,hd)=(97,hd):=by unfold fixC fixR fixH;rw [if_neg (by simp only;omega),if_pos (by simp only;omega)]
      rw [hfx] at HX;obtain ⟨Wx,hWx⟩:∃ Wx,(Y.setCell ⟨wr.heap.size,0,none⟩ (.int .i32 97))=Wx:=⟨_,rfl⟩;have hW:Below wr.heap.size wr Wx:=hWx▸(hY.setCell (p:=⟨wr.heap.size,0,none⟩) (lR _) (.int .i32 97));have y0:=(heap_setCell_same _ wr.heap.size 0 _ _ (.int .i32 97) hbx).trans (by simp;rfl);rw [hWx] at y0;have n0:=cH y0 0;have n1:=cH y0 1;simp at n0 n1;obtain ⟨g5,cap5,w6,hr,ho6,hb6,_,_⟩:=appendF_one kindC layC (ho.below hW) (by have:=hW.size;omega) (97,hd) #[.int .i32 97,.int .i64 hd] rfl 63 (by omega) (by omega) 29;have hb7:Below w.heap.size w w6:=(hB.trans (hW.mono hBs)).trans hb6;rw [HX.out] at ho6;rw [hl2] at hr ho6;clear hb6 ho hB hY hW hfx;go_wp2_with (at_builtin;refine wpList_append_hr rfl _ _ 29 rfl _ _ rfl rfl hr ?_);go_roundw
      case rel=>exact ⟨j+1,by go_num,by omega,by omega,ho6,hb7⟩
      case measure=>simp [RowKit.intOf];omega
     ·skip
      have t1:(r==10)=false:=nB (by omega);have t2:decide (r=10)=false:=decide_eq_false (by omega);have t3:¬ r=10:=by omega
      have t4:(r != 10)=true:=by simp;omega
      have q2:¬ r<32:=by omega
      have q3:126<r:=by omega
      have q4:¬ r<161:=by omega
      have hfx:fixC (r,hd)=(97,0):=by unfold fixC fixR fixH;rw [if_neg (by simp only;omega),if_neg (by simp only;omega)]
      rw [hfx] at HX;obtain ⟨Wx,hWx⟩:∃ Wx,((Y.setCell ⟨wr.heap.size,0,none⟩ (.int .i32 97)).setCell ⟨wr.heap.size,1,none⟩ (.int .i64 0))=Wx:=⟨_,rfl⟩;have hW:Below wr.heap.size wr Wx:=hWx▸((hY.setCell (p:=⟨wr.heap.size,0,none⟩) (lR _) (.int .i32 97)).setCell (p:=⟨wr.heap.size,1,none⟩) (lR _) (.int .i64 0));have y0:=(heap_setCell_same _ wr.heap.size 0 _ _ (.int .i32 97) hbx).trans (by simp;rfl);have y1:=(heap_setCell_same _ wr.heap.size 1 _ _ (.int .i64 0) y0).trans (by simp;rfl);rw [hWx] at y1;have n0:=cH y1 0;have n1:=cH y1 1;simp at n0 n1;obtain ⟨g5,cap5,w6,hr,ho6,hb6,_,_⟩:=appendF_one kindC layC (ho.below hW) (by have:=hW.size;omega) (97,0) #[.int .i32 97,.int .i64 0] rfl 63 (by omega) (by omega) 29;have hb7:Below w.heap.size w w6:=(hB.trans (hW.mono hBs)).trans hb6;rw [HX.out] at ho6;rw [hl2] at hr ho6;clear hb6 ho hB hY hW hfx;go_wp2_with (at_builtin;refine wpList_append_hr rfl _ _ 29 rfl _ _ rfl rfl hr ?_);go_roundw
      case rel=>exact ⟨j+1,by go_num,by omega,by omega,ho6,hb7⟩
      case measure=>simp [RowKit.intOf];omega
     ·skip
      have t1:(r==10)=false:=nB (by omega);have t2:decide (r=10)=false:=decide_eq_false (by omega);have t3:¬ r=10:=by omega
      have t4:(r != 10)=true:=by simp;omega
      have q2:¬ r<32:=by omega
      have q3:126<r:=by omega
      have q4:¬ r<161:=by omega
      have hfx:fixC (r,hd)=(97,0):=by unfold fixC fixR fixH;rw [if_neg (by simp only;omega),if_neg (by simp only;omega)]
      rw [hfx] at HX;obtain ⟨Wx,hWx⟩:∃ Wx,((Y.setCell ⟨wr.heap.size,0,none⟩ (.int .i32 97)).setCell ⟨wr.heap.size,1,none⟩ (.int .i64 0))=Wx:=⟨_,rfl⟩;have hW:Below wr.heap.size wr Wx:=hWx▸((hY.setCell (p:=⟨wr.heap.size,0,none⟩) (lR _) (.int .i32 97)).setCell (p:=⟨wr.heap.size,1,none⟩) (lR _) (.int .i64 0));have y0:=(heap_setCell_same _ wr.heap.size 0 _ _ (.int .i32 97) hbx).trans (by simp;rfl);have y1:=(heap_setCell_same _ wr.heap.size 1 _ _ (.int .i64 0) y0).trans (by simp;rfl);rw [hWx] at y1;have n0:=cH y1 0;have n1:=cH y1 1;simp at n0 n1;obtain ⟨g5,cap5,w6,hr,ho6,hb6,_,_⟩:=appendF_one kindC layC (ho.below hW) (by have:=hW.size;omega) (97,0) #[.int .i32 97,.int .i64 0] rfl 63 (by omega) (by omega) 29;have hb7:Below w.heap.size w w6:=(hB.trans (hW.mono hBs)).trans hb6;rw [HX.out] at ho6;rw [hl2] at hr ho6;clear hb6 ho hB hY hW hfx;go_wp2_with (at_builtin;refine wpList_append_hr rfl _ _ 29 rfl _ _ rfl rfl hr ?_);go_roundw
      case rel=>exact ⟨j+1,by go_num,by omega,by omega,ho6,hb7⟩
      case measure=>simp [RowKit.intOf];omega
  ·have hm:(zs.take j).map fixC=madeP zs:=by
    unfold madeP;by_cases h4:j=400
    ·rw [h4]
    ·have:j=n:=by
      by_cases hjn2:j<n
      ·exact absurd ⟨hjn2,by omega⟩ hj
      ·omega
     rw [List.take_of_length_le (by omega),List.take_of_length_le (by omega)]
   rw [hm] at ho;have HO:Hid (OwnF cellV 2 63 wr w.heap.size _ (madeP zs)):=ho;obtain ⟨ao,co,rfl⟩:=ho.shape;clear ho hm;by_cases hjn2:j<n
   ·have b1:(j:Int)<(n:Int):=by omega
    have b2:¬ (j:Int)<400:=by
     intro h4;exact hj ⟨hjn2,by omega⟩
    clear hj;go_wp2_with fail;go_ret;exact ⟨_,rfl,HO.out,hB⟩
   ·have b1:¬ (j:Int)<(n:Int):=by omega
    clear hj;go_wp2_with fail;go_ret;exact ⟨_,rfl,HO.out,hB⟩
end Go.Proofs.YtijpfbcippijoaaGreatDoor
