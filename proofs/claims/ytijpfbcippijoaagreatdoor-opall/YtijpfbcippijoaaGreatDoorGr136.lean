import Derived.Test.YtijpfbcippijoaaGreatDoorAl
import Derived.Test.YtijpfbcippijoaaGreatDoorGr137
import Derived.Test.YtijpfbcippijoaaGreatDoorGr106
import Derived.Test.YtijpfbcippijoaaGreatDoorGr146
import Derived.Laws.Cover4
import Derived.Test.YtijpfbcippijoaaGreatDoorGr140
import Derived.Test.YtijpfbcippijoaaGreatDoorGr144
import Derived.Deep.Cut
import Derived.Deep.MidRow
import Derived.Deep.WholeRow
import Derived.Test.YtijpfbcippijoaaGreatDoorGr142
set_option maxHeartbeats 4000000
set_option maxRecDepth 100000
namespace Go.Proofs.YtijpfbcippijoaaGreatDoor
open Go.RowKit Go.Lib
theorem Upd.cell {q:Nat} {w w':World} (hu:Upd q w w') {p:Addr} (h1:p.block<w.heap.size) (h2:p.block≠q):w'.cell? p=w.cell? p:=by
 unfold World.cell?;rw [hu.block p.block h1 h2]
theorem Rw.upd {α:Type} {f:α→List Value} {k:Nat} (hv:∀ x:α,∃ kd i,(f x)[0]?=some (.int kd i)) {w w':World} {a:Option Addr} {n cap:Nat} {l:List α} (h:Rw f k w a n cap l) {q:Nat} {t:Tr} (hq:RopeAt w q t) (hu:Upd q w w'):Rw f k w' a n cap l :=
 ⟨h.len,h.room,fun hn=>by
  obtain ⟨g,off,ha,hg,hc⟩:=h.cells hn
  have hl0:0<l.length:=by have:=h.len;omega
  have hx:l[0]?=some l[0]:=List.getElem?_eq_getElem hl0
  obtain ⟨kd,i,hvi⟩:=hv l[0]
  have h0:=hc 0 _ hx 0 _ hvi
  obtain ⟨gr,hb,_⟩:=hq
  have hne:g≠q:=by
   rintro rfl
   simp only [World.cell?,hb] at h0
   match off,h0 with
   | 0,h0=>simp at h0
   | j+1,h0=>simp at h0
  exact ⟨g,off,ha,by have:=hu.size;omega,fun j x hj i v hv=>(hu.cell (p:=⟨g,off+j*k+i,none⟩) hg hne).trans (hc j x hj i v hv)⟩⟩
theorem num_cell (x:Int×Int):∃ kd i,(cellV x)[0]?=some (.int kd i):=⟨_,_,rfl⟩
theorem num_piece (x:Int×Int):∃ kd i,(pieceV x)[0]?=some (.int kd i):=⟨_,_,rfl⟩
theorem Holds.insertU {w2:World} {q:Nat} {R:List (Int×Int)} {W:World} (h:Holds w2 q R W) (hq:w2.heap.size≤q) (m:Nat) (hm:m≤R.length) {s:ByteArray} {rs:List Int} (ht:IsText s rs) (hne:rs≠[]) (hid:Int) (h0:0≤hid) (h1:hid≤1048576) (hn:R.length+rs.length≤1048576) (hBar:Bar w2) :
  Calls Tryz.prog 25 #[.pointer (some ⟨q,0,none⟩),.int .i64 (m:Int),.string s,.int .i64 hid] W fun e W'=>e=.returned (.int .i64 0)∧Holds w2 q (putL R m rs hid) W'∧Upd q W W':=by
 obtain ⟨t,k1,k2,rfl,k3⟩:=h;exact (insert_any k1 k2 m hm ht hne hid h0 h1 hn (hBar.below k3)).mono fun e W' ⟨he,⟨t',g1,g2,g3⟩,hu⟩=>⟨he,⟨t',g1,g2,g3,Upd.below k3 hu hq k3.size⟩,hu⟩
theorem Holds.bumpU {w2:World} {q:Nat} {R:List (Int×Int)} {W:World} (h:Holds w2 q R W) (hq:w2.heap.size≤q) {a:Option Addr} {m cap:Nat} {l:List (Int×Int)} (hl:Rw pieceV 2 W a m cap l) (hm:m≤32768) (hs:Srt l) (hb:∀ x∈l,0≤x.1∧x.2≤(R.length:Int)) (d:Int) (hd:d=1∨d=-1) (hok:∀ c∈bmp l d 0 R,0≤c.2∧c.2≤1048576) :
  Calls Tryz.prog 26 #[.pointer (some ⟨q,0,none⟩),.slice a m cap,.int .i64 d] W fun e W'=>e=.returned (.int .i64 0)∧Holds w2 q (bmp l d 0 R) W'∧Upd q W W':=by
 obtain ⟨t,k1,k2,rfl,k3⟩:=h;exact (bump_any k1 k2 hl hm hs hb d hd hok).mono fun e W' ⟨he,⟨t',g1,g2,g3⟩,hu⟩=>⟨he,⟨t',g1,g2,g3,Upd.below k3 hu hq k3.size⟩,hu⟩
section
variable {w2 : World} {q : Nat} {R : List (Int × Int)} {W : World}
theorem rw_piece {a:Option Addr} {m cap:Nat} {l:List (Int×Int)} (h:Sp.Rng W a m cap l):Rw pieceV 2 W a m cap l:=rw_of_rng h
end
end Go.Proofs.YtijpfbcippijoaaGreatDoor
namespace Go.Proofs.YtijpfbcippijoaaGreatDoor
open Go.RowKit Go.Lib Sp
def okL (r:Int):Prop:=r=10∨(32≤r∧r≤126)∨(161≤r∧r≤55295)
theorem okL_okR {r:Int} (h:okL r):okR r:=by
 unfold okL at h;refine ⟨valid_of (by omega) (by omega) (by omega),?_⟩;unfold okRune;rw [decide_eq_true_iff];omega
end Go.Proofs.YtijpfbcippijoaaGreatDoor
namespace Go.Proofs.YtijpfbcippijoaaGreatDoor
open Go.RowKit Go.Lib
theorem fixR_ok (r:Int):okR (fixR r):=by
 refine okL_okR ?_;unfold fixR okL;split<;>omega
theorem madeP_len (zs:List (Int×Int)):(madeP zs).length≤400:=by
 unfold madeP;rw [List.length_map,List.length_take];omega
theorem madeP_ok (zs:List (Int×Int)):∀ c∈madeP zs,okR c.1:=fun c hc=>by
 obtain ⟨x,_,rfl⟩:=List.mem_map.1 hc;exact fixR_ok x.1
theorem madeP_cnt (zs:List (Int×Int)):∀ c∈madeP zs,0≤c.2∧c.2≤1048576:=fun c hc=>by
 obtain ⟨x,_,rfl⟩:=List.mem_map.1 hc;simp only [fixC];unfold fixH;split<;>omega
theorem Upd.box {q:Nat} {w w':World} (h:Upd q w w') {b:Nat} {o:Obj} (hb:w.heap[b]?=some o) (hne:b≠q):w'.heap[b]?=some o:=(h.block b (gA hb) hne).trans hb
theorem Holds.ne {w2:World} {q:Nat} {R:List (Int×Int)} {W:World} (h:Holds w2 q R W) {b:Nat} (hb:W.heap.size≤b):b≠q:=by
 obtain ⟨t,⟨g,hq,_⟩,_⟩:=h;have:=(gA hq);omega
theorem Holds.pieceU {w2:World} {q:Nat} {R:List (Int×Int)} {W W':World} (h:Holds w2 q R W) (hu:Upd q W W') {a:Option Addr} {n cap:Nat} {l:List (Int×Int)} (hr:Rw pieceV 2 W a n cap l):Rw pieceV 2 W' a n cap l:=by
 obtain ⟨t,h1,_⟩:=h;exact hr.upd num_piece h1 hu
theorem Holds.cellU {w2:World} {q:Nat} {R:List (Int×Int)} {W W':World} (h:Holds w2 q R W) (hu:Upd q W W') {a:Option Addr} {n cap:Nat} {l:List (Int×Int)} (hr:Rw cellV 2 W a n cap l):Rw cellV 2 W' a n cap l:=by
 obtain ⟨t,h1,_⟩:=h;exact hr.upd num_cell h1 hu
theorem bmp_okR {R:List (Int×Int)} {l:List (Int×Int)} {d:Int} (ho:∀ c∈R,okR c.1):∀ c∈bmp l d 0 R,okR c.1:=fun c hcm=>by
 obtain ⟨x,hx,e⟩:=bmp_mem hcm;rcases e with rfl|rfl
 ·exact ho _ hx
 ·exact ho x hx
theorem rw_front {α:Type} {f:α→List Value} {k:Nat} {w:World} {a:Option Addr} {n m cap:Nat} {l r:List α} (h:Rw f k w a n cap (l++r)) (hl:l.length=m):Rw f k w a m cap l:=by
 have hn:=h.len;simp only [List.length_append] at hn;refine ⟨hl,⟨by have:=h.room.1;omega,h.room.2⟩,fun hm=>?_⟩;obtain ⟨g,off,e,hg,hc⟩:=h.cells (by omega);exact ⟨g,off,e,hg,fun j x hj=>hc j x (by rw [List.getElem?_append_left (List.getElem?_eq_some_iff.1 hj).1];exact hj)⟩
theorem gApply_no {o:OpV} {w:World} {aR:Option Addr} {nR cR:Nat} {a:Option Addr} {m cap:Nat} (hl:Sp.Rng w a m cap o.l) (hs:o.s.size≤2097152) {C:Int} (hC:opCheck o (nR:Int)=C) (hC0:C≠0) :
  Calls Tryz.prog 12 #[.slice aR nR cR,opVal o (.slice a m cap)] w fun e w'=>e=.returned (.tuple #[.slice aR nR cR,.int .i64 C])∧Below w.heap.size w w':=by
 obtain ⟨c,n,k,p,s,l,tc,tn,on⟩:=o;simp only [opVal] at *;have HC:Hid (∀ W,Below w.heap.size w W→Calls Tryz.prog 27 #[.agg #[.int .i64 c,.int .i64 n,.int .i64 k,.int .i64 p,.string s,.slice a m cap,.int .i64 tc,.int .i64 tn,.bool on],.int .i64 (nR:Int)] W fun e w'=>e=.returned (.int .i64 C)∧Below W.heap.size W w'):=fun W hb=>by
  have:=gCheck_any (o:=⟨c,n,k,p,s,l,tc,tn,on⟩) (total:=(nR:Int)) (hl.below hb) hs;rw [hC] at this;exact this
 clear hC hl;have t1:(C==0)=false:=nB hC0;have t2:(C != 0)=true:=by simp [hC0]
 go_enter Tryz.func12,Tryz.ntmps12;go_wp2_with fail;have hB0:Below w.heap.size w (w.alloc (Obj.cells #[.int .i64 c,.int .i64 n,.int .i64 k,.int .i64 p,.string s,.slice a m cap,.int .i64 tc,.int .i64 tn,.bool on] 44)):=(bE w.heap.size w).alloc (lR _) _;refine (HC.out _ hB0).mono ?_;rintro e w1 ⟨rfl,hb1⟩;have hX1:w1.heap[w.heap.size]?=some (Obj.cells #[.int .i64 c,.int .i64 n,.int .i64 k,.int .i64 p,.string s,.slice a m cap,.int .i64 tc,.int .i64 tn,.bool on] 44):=(hb1.block _ (by simp)).trans (alloc_last _ _ _ rfl);obtain ⟨d0,d1,d2,d3,d4,d5,d6,d7,d8⟩:=box9 hX1;have hB:=hB0.trans (hb1.mono hB0.size);clear hX1 hB0 hb1 HC;go_wp2_with fail;refine bodyPost_ret (results_tmp2 rfl _ _ _) rfl ?_;exact ⟨rfl,hB⟩
theorem gApply_status {c n p:Int} {s:ByteArray} {l:List (Int×Int)} {tc tn:Int} {on:Bool} {w:World} {aR:Option Addr} {nR cR:Nat} {a:Option Addr} {m cap:Nat} (hl:Sp.Rng w a m cap l) (hs:s.size≤2097152) (hC:opCheck ⟨c,n,4,p,s,l,tc,tn,on⟩ (nR:Int)=0) :
  Calls Tryz.prog 12 #[.slice aR nR cR,opVal ⟨c,n,4,p,s,l,tc,tn,on⟩ (.slice a m cap)] w fun e w'=>e=.returned (.tuple #[.slice aR nR cR,.int .i64 40])∧Below w.heap.size w w':=by
 simp only [opVal] at *;have HC:Hid (∀ W,Below w.heap.size w W→Calls Tryz.prog 27 #[.agg #[.int .i64 c,.int .i64 n,.int .i64 4,.int .i64 p,.string s,.slice a m cap,.int .i64 tc,.int .i64 tn,.bool on],.int .i64 (nR:Int)] W fun e w'=>e=.returned (.int .i64 0)∧Below W.heap.size W w'):=fun W hb=>by
  have:=gCheck_any (o:=⟨c,n,4,p,s,l,tc,tn,on⟩) (total:=(nR:Int)) (hl.below hb) hs;rw [hC] at this;exact this
 clear hC hl;go_enter Tryz.func12,Tryz.ntmps12;go_wp2_with fail;have hB0:Below w.heap.size w (w.alloc (Obj.cells #[.int .i64 c,.int .i64 n,.int .i64 4,.int .i64 p,.string s,.slice a m cap,.int .i64 tc,.int .i64 tn,.bool on] 44)):=(bE w.heap.size w).alloc (lR _) _;refine (HC.out _ hB0).mono ?_;rintro e w1 ⟨rfl,hb1⟩;have hX1:w1.heap[w.heap.size]?=some (Obj.cells #[.int .i64 c,.int .i64 n,.int .i64 4,.int .i64 p,.string s,.slice a m cap,.int .i64 tc,.int .i64 tn,.bool on] 44):=(hb1.block _ (by simp)).trans (alloc_last _ _ _ rfl);obtain ⟨d0,d1,d2,d3,d4,d5,d6,d7,d8⟩:=box9 hX1;have hB:=hB0.trans (hb1.mono hB0.size);clear hX1 hB0 hb1 HC;go_wp2_with fail;refine bodyPost_ret (results_tmp2 rfl _ _ _) rfl ?_;exact ⟨rfl,hB⟩
theorem inL_yes {l:List (Int×Int)} {i:Int} {x:Int×Int} (hx:x∈l) (h1:x.1≤i) (h2:i<x.2):inL l i=true:=by
 unfold inL;rw [List.any_eq_true];exact ⟨x,hx,decide_eq_true ⟨h1,h2⟩⟩
theorem inL_no {l:List (Int×Int)} (hs:Srt l) {m:Nat} {i:Int} (h1:∀ (j:Nat) x,j<m→l[j]?=some x→x.2≤i) (h2:∀ x,l[m]?=some x→i<x.1):inL l i=false:=by
 cases hb:inL l i with
 | false=>rfl
 | true =>
  exfalso;unfold inL at hb;rw [List.any_eq_true] at hb;obtain ⟨y,hy,hd⟩:=hb;have hd2:=of_decide_eq_true hd;obtain ⟨j,hj⟩:=List.getElem?_of_mem hy;rcases Nat.lt_trichotomy j m with h|h|h
  ·have:=h1 j y h hj;omega
  ·subst h;have:=h2 y hj;omega
  ·have hm:m<l.length:=by have:=(List.getElem?_eq_some_iff.1 hj).1;omega
   have hx:l[m]?=some l[m]:=List.getElem?_eq_getElem hm;have e1:=h2 _ hx;have e2:=hs.apart m j _ _ h hx hj;have e3:=hs.some_ _ (List.getElem_mem hm);omega
end Go.Proofs.YtijpfbcippijoaaGreatDoor
