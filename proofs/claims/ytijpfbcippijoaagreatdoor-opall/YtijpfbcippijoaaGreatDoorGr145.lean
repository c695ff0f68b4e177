import Derived.Test.YtijpfbcippijoaaGreatDoorAl
import Derived.Test.YtijpfbcippijoaaGreatDoorGr144
import Derived.Test.YtijpfbcippijoaaGreatDoorGr146
import Derived.WalkKit
import Derived.Lib.OthersKept
import Derived.RangeFuncNested
import Derived.RangeFuncBound
import Derived.RangeFuncCalls
import Derived.RangeFuncLeaves
import Derived.Test.YtijpfbcippijoaaGreatDoorGr120
import Derived.Shelf.Abstract
import Derived.Shelf.RegionOpen
import Derived.OwnWalkIn
import Derived.TacticsInMore
import Derived.LoopNIn
import Derived.LoopIn
set_option maxHeartbeats 4000000
set_option maxRecDepth 100000
namespace Go.Proofs.YtijpfbcippijoaaGreatDoor
open Go.RowKit Go.Lib
theorem takeD {P:Program} {md:Region.Mode} {ops:Array Oper} {Q:Exit→Act→World→Prop} {S:World→Prop} {i:Nat} {oi:Oper} {d:Option Nat} {v:Value} {fuel:Nat} {listed:Array Bool} {a:Act} {w:World} (hi:ops[i]?=some oi) (hd:oi.dst=d)
  (hs:Region.noSelect ops=true) (hf:Region.free md ops listed i=true) (hr:(Region.ready md ops listed).contains i=true)
  (hQ:∀ c a w,Q (.panic c) (a.put oi.dst v) w→Q (.panic c) a w) (hy:YieldsIf P ops S oi v a) (hS:S w)
  (h:wpAnyH P md ops Q S fuel (listed.setIfInBounds i true) (a.put d v) w):wpAnyH P md ops Q S (fuel+1) listed a w:=by
 subst hd;exact wpAnyH_take hi hs hf hr hQ hy hS h
theorem Rw.rng {w:World} {a:Option Addr} {n cap:Nat} {l:List (Int×Int)} (h:Rw pieceV 2 w a n cap l):Sp.Rng w a n cap l :=
 ⟨h.len,h.room,fun j hj=>by
  obtain ⟨g,off,x,ha,hg,hx,hc⟩:=h.at j hj
  have e:l.getD j (0,0)=x:=by rw [List.getD_eq_getElem?_getD,hx];rfl
  rw [e]
  exact ⟨g,off,ha,hg,hc 0 _ rfl,hc 1 _ rfl⟩⟩
theorem chk_srt:∀ (l:List (Int×Int)) (i:Nat) (b:Int),Srt l→(∀ x∈l,0≤x.1∧x.2≤1048576)→(∀ x∈l,b<x.1)→Sp.chk i b l=(0,0)
 | [],_,_,_,_,_=>rfl
 | x::l,i,b,hs,hb,hf=>by
  have h1:=hs.some_ x (by simp);have h2:=hb x (by simp);have h3:=hf x (by simp);unfold Sp.chk;rw [if_neg (by omega),if_neg (by omega)];exact chk_srt l _ _ hs.tail (fun y hy=>hb y (List.mem_cons_of_mem _ hy)) hs.first
theorem check_srt {l:List (Int×Int)} (hs:Srt l) (hb:∀ x∈l,0≤x.1∧x.2≤1048576) (hn:l.length≤32768):Sp.checkL l=(0,0):=by
 unfold Sp.checkL;rw [if_neg (by omega)];exact chk_srt l 0 (-1) hs hb fun x hx=>by have:=hb x hx;omega
theorem bumped_nil {w:World} {g:Nat} {a:Option Addr} {cap:Nat} (hA:At w .nil g) (hl:Rw pieceV 2 w a 0 cap []) (d:Int) :
  Calls Tryz.prog 60 #[.pointer (some ⟨g,0,none⟩),.int .i64 0,.slice a 0 cap,.int .i64 d] w fun e w'=>e=.returned (.pointer (some ⟨g,0,none⟩))∧Below w.heap.size w w':=by
 have c0:w.cell? ⟨g,0,none⟩=some (.int .i64 0):=hA.cells;have HM:=meeting_list hl (by omega) ⟨fun x hx=>(by cases hx),fun i j x y _ hx=>(by simp at hx)⟩ 0 0 (Int.le_refl _);rw [show meetL 0 0 []=[] from rfl] at HM;clear hl;go_enter Tryz.func60,Tryz.ntmps60;go_wp2_with fail;refine HM.mono ?_;rintro e w1 ⟨a1,cap1,rfl,_,hb1⟩;clear HM;go_wp2_with fail;go_ret;exact ⟨rfl,hb1⟩
theorem bumped_root {w:World} {t:Tr} {g:Nat} {a:Option Addr} {m cap:Nat} {l:List (Int×Int)} (hA:At w t g) (hR:t.Rp) (hl:Rw pieceV 2 w a m cap l) (hm:m≤32768) (hs:Srt l) (hb:∀ x∈l,0≤x.1∧x.2≤(t.row.length:Int)) (d:Int) (hd:-1≤d∧d≤1) :
  Calls Tryz.prog 60 #[.pointer (some ⟨g,0,none⟩),.int .i64 0,.slice a m cap,.int .i64 d] w fun e w'=>∃ g' t',e=.returned (.pointer (some ⟨g',0,none⟩))∧At w' t' g'∧t'.Can∧Pcs t'.lv∧t'.row=bmp l d 0 t.row∧Below w.heap.size w w':=by
 have hlen:=hR.len;rcases hR.can with rfl|hf
 ·have hn:l=[]:=by
   cases l with
   | nil=>rfl
   | cons x l =>
    have h1:=hs.some_ x (by simp);have h2:=hb x (by simp);simp only [Tr.row,List.length_nil] at h2;omega
  subst hn;have h0:=hl.len;simp only [List.length_nil] at h0;subst h0;refine (bumped_nil hA hl d).mono ?_;rintro e w' ⟨rfl,hB⟩;exact ⟨g,.nil,rfl,hA.below hB,.inl rfl,pcs_nil,rfl,hB⟩
 ·refine (bumped_fine d hd t.sm.high.toNat (f:=0) (by have:=hf.pos;omega) hA ⟨hf,hR.pcs,fun c hc=>⟨hR.lo c hc,hR.hi c hc⟩,by omega,hs,fun x hx=>by have:=hb x hx;omega⟩ hl (by omega) 0 rfl).mono ?_;rintro e w' ⟨g',t',rfl,hA',hB',hB⟩;exact ⟨g',t',rfl,hA',.inr hB'.fine,hB'.pcs,by simpa using hB'.row,hB⟩
theorem Tr.Can.bounds {t:Tr} (h:t.Can) (hr:∀ c∈t.row,0≤c.2∧c.2≤1048576):0≤t.sm.least∧t.sm.most≤1048576:=by
 rcases h with rfl|hf
 ·exact ⟨Int.le_refl _,by decide⟩
 ·obtain ⟨c,hc,e1⟩:=hf.wf.smIn.least;obtain ⟨b,hb,e2⟩:=hf.wf.smIn.most;have:=hr c hc;have:=hr b hb;omega
theorem bump_any {w:World} {q:Nat} {t:Tr} (h:RopeAt w q t) (hR:t.Rp) {a:Option Addr} {m cap:Nat} {l:List (Int×Int)} (hl:Rw pieceV 2 w a m cap l) (hm:m≤32768) (hs:Srt l) (hb:∀ x∈l,0≤x.1∧x.2≤(t.row.length:Int)) (d:Int) (hd:d=1∨d=-1) (hok:∀ c∈bmp l d 0 t.row,0≤c.2∧c.2≤1048576) :
  Calls Tryz.prog 26 #[.pointer (some ⟨q,0,none⟩),.slice a m cap,.int .i64 d] w fun e w'=>e=.returned (.int .i64 0)∧(∃ t',RopeAt w' q t'∧t'.Rp∧t'.row=bmp l d 0 t.row)∧Upd q w w':=by
 have hlen:=hR.len;have hll:=hl.len;have HCK:=Sp.check_any hl.rng;rw [check_srt hs (fun x hx=>by have:=hb x hx;omega) (by omega)] at HCK;have HT:Hid (∀ W,Below w.heap.size w W→Calls Tryz.prog 24 #[.pointer (some ⟨q,0,none⟩)] W fun e w'=>e=.returned (.int .i64 (t.row.length:Int))∧w'=W):=fun W hW=>ropeTotal_any (h.below hW)
 obtain ⟨g,hq,hA⟩:=h;have hql:=(gA hq);have c0:w.cell? ⟨q,0,none⟩=some (.pointer (some ⟨g,0,none⟩)):=by simp [World.cell?,hq]
 have HQ:Hid (w.heap[q]?=some (.cells #[.pointer (some ⟨g,0,none⟩)] 73)):=hq;have HBP:Hid (∀ W,Below w.heap.size w W→Calls Tryz.prog 60 #[.pointer (some ⟨g,0,none⟩),.int .i64 0,.slice a m cap,.int .i64 d] W fun e w'=>∃ g' t',e=.returned (.pointer (some ⟨g',0,none⟩))∧At w' t' g'∧t'.Can∧Pcs t'.lv∧t'.row=bmp l d 0 t.row∧Below W.heap.size W w'):=fun W hW=>bumped_root (hA.below hW) hR (hl.below hW) hm hs hb d (by omega)
 have HL:Hid (Rw pieceV 2 w a m cap l):=hl;have HB:Hid (∀ x∈l,0≤x.1∧x.2≤(t.row.length:Int)):=hb;have HOK:Hid (∀ c∈bmp l d 0 t.row,0≤c.2∧c.2≤1048576):=hok;clear hl hb hok hq hs;rcases hd with rfl|rfl
 ·skip
  go_enter Tryz.func26,Tryz.ntmps26;go_wp2_with fail;refine HCK.mono ?_;rintro e w1 ⟨rfl,hb1⟩;clear HCK;rcases Nat.eq_zero_or_pos m with h0|h0
  ·subst h0;go_wp2_with fail;refine wp_region_held_drew (S:=(fun _=>True)) (by kernel_rfl) ?hS1 (fun hHeld=>?rest1)
   case hS1=>trivial
   refine tD 0 (some 24) ?_
   try simp only [putS]
   refine tD 1 (some 25) ?_
   try simp only [putS]
   refine tD 2 (some 26) ?_
   try simp only [putS]
   refine tD 3 (some 27) ?_
   try simp only [putS]
   refine tU 4 (some 28) ?_
   try simp only [putS]
   refine tU 5 (some 29) ?_
   try simp only [putS]
   refine tU 6 (some 30) ?_
   try simp only [putS]
   refine tU 7 (some 31) ?_
   try simp only [putS]
   refine tU 8 (some 32) ?_
   try simp only [putS]
   refine tU 9 (some 33) ?_
   try simp only [putS]
   refine tU 10 (some 34) ?_
   try simp only [putS]
   refine tU 11 (some 35) ?_
   try simp only [putS]
   refine tU 12 (some 36) ?_
   try simp only [putS]
   refine tU 13 (some 37) ?_
   try simp only [putS]
   refine tD 14 (some 38) ?_
   try simp only [putS]
   refine wpAnyH_done (by kernel_rfl) ?_ _;have hbd:Below w.heap.size w w1.drew:=by first|exact hb1|exact hb1.drew
   have c3:=(hbd.cell (p:=⟨q,0,none⟩) hql).trans c0;clear c0;go_wp2_with fail;refine (HBP.out _ hbd).mono ?_;rintro e w4 ⟨g4,t4,rfl,hA4,hC4,hP4,hr4,hb4⟩;have hB4:=hbd.trans (hb4.mono hbd.size);have hbo:=hC4.bounds (by rw [hr4];exact HOK.out);have hz0:decide (t4.sm.least<0)=false:=decide_eq_false (by omega);have hz1:decide (1048576<t4.sm.most)=false:=decide_eq_false (by omega);obtain ⟨z0,z1,z2,z3,z4,z5,z6,z7,z8,z9⟩:=hA4.ten;have hq4:w4.heap[q]?=some (.cells #[.pointer (some ⟨g,0,none⟩)] 73):=(hB4.block q hql).trans HQ.out;have c8:w4.cell? ⟨q,0,none⟩=some (.pointer (some ⟨g,0,none⟩)):=by simp [World.cell?,hq4]
   have f8:w4.frozen? ⟨q,0,none⟩=false:=frozen_of_row w4 q 0 _ _ hq4;have HF:Hid (RopeAt (w4.setCell ⟨q,0,none⟩ (.pointer (some ⟨g4,0,none⟩))) q t4):=ropeAt_set hq4 hA4;have hrl:t4.row.length=t.row.length:=by rw [hr4,bmp_len]
   have hrp:t4.Rp:=⟨hC4,hP4,fun c hc=>(HOK.out c (hr4▸hc)).1,fun c hc=>(HOK.out c (hr4▸hc)).2,by omega⟩;have HR4:Hid (t4.row=bmp l _ 0 t.row):=hr4;clear hr4 hq4 hrl hbo c3 hA4;go_wp2_with fail;go_ret;exact ⟨rfl,⟨t4,HF.out,hrp,HR4.out⟩,(Upd.ofBelow hB4).trans (upd_set q _)⟩
  ·obtain ⟨M,rfl⟩:∃ M,m=M+1:=⟨m-1,by omega⟩;obtain ⟨ga,off,x,rfl,hga,hx,hc⟩:=HL.out.at M (by omega);have HX:Hid (w.cell? ⟨ga,off+M*2+1,none⟩=some (.int .i64 x.2)):=hc 1 _ rfl;have c1:w1.cell? ⟨ga,off+M*2+1,none⟩=some (.int .i64 x.2):=(hb1.cell (p:=⟨ga,off+M*2+1,none⟩) hga).trans HX.out;have hx2:¬ (t.row.length:Int)<x.2:=by have:=(HB.out x (List.mem_of_getElem? hx)).2;omega
   have b2:decide ((t.row.length:Int)<x.2)=false:=decide_eq_false hx2;have u2:IntKind.i64.wrap (M:Int)=(M:Int):=IntWalk.i64_in _ (by omega);have u3:(M:Int)<(M:Int)+1:=by omega
   clear hc hx hx2;go_wp2_with fail;refine wp_region_held_drew (S:=(fun W=>W.cell? ⟨ga,off+M*2+1,none⟩=some (.int .i64 x.2))) (by kernel_rfl) ?hS7 (fun hHeld=>?rest7)
   case hS7=>(first|exact c1|exact c2)
   refine tD 0 (some 24) ?_
   try simp only [putS]
   refine tD 1 (some 25) ?_
   try simp only [putS]
   refine tD 2 (some 26) ?_
   try simp only [putS]
   refine tD 3 (some 27) ?_
   try simp only [putS]
   refine tD 4 (some 28) ?_
   try simp only [putS]
   refine tD 5 (some 29) ?_
   try simp only [putS]
   refine tD 6 (some 30) ?_
   try simp only [putS]
   refine tD 7 (some 31) ?_
   try simp only [putS]
   refine tD 8 (some 32) ?_
   try simp only [putS]
   refine tD 9 (some 33) ?_
   try simp only [putS]
   refine tD 10 (some 34) ?_
   try simp only [putS]
   refine tD 11 (some 35) ?_
   try simp only [putS]
   refine wpAnyH_ready (rs:=[12]) (by kernel_rfl) (by simp) ?_;refine AllReadyH.cons rfl (fun K hK=>?_) AllReadyH.nil;go_simp;refine (HT.out _ ?_).mono ?_
   ·first|exact hb1|exact hb1.drew
   rintro e2 w2 ⟨rfl,hw2⟩;have hb2:Below w.heap.size w w2:=by rw [hw2];first|exact hb1|exact hb1.drew
   have c2:w2.cell? ⟨ga,off+M*2+1,none⟩=some (.int .i64 x.2):=(hb2.cell (p:=⟨ga,off+M*2+1,none⟩) hga).trans (HX.out);clear hb1 hw2 c1;have hb1:=hb2;clear hHeld;refine hK.out _ _ ?hS20 (fun hHeld=>?rest20)
   case hS20=>(first|exact c1|exact c2)
   clear hK K
   try simp only [putS]
   refine tD 13 (some 37) ?_
   try simp only [putS]
   refine tD 14 (some 38) ?_
   try simp only [putS]
   refine wpAnyH_done (by kernel_rfl) ?_ _;have hbd:Below w.heap.size w w2:=by first|exact hb1|exact hb1.drew
   have c3:=(hbd.cell (p:=⟨q,0,none⟩) hql).trans c0;clear c0;go_wp2_with fail;refine (HBP.out _ hbd).mono ?_;rintro e w4 ⟨g4,t4,rfl,hA4,hC4,hP4,hr4,hb4⟩;have hB4:=hbd.trans (hb4.mono hbd.size);have hbo:=hC4.bounds (by rw [hr4];exact HOK.out);have hz0:decide (t4.sm.least<0)=false:=decide_eq_false (by omega);have hz1:decide (1048576<t4.sm.most)=false:=decide_eq_false (by omega);obtain ⟨z0,z1,z2,z3,z4,z5,z6,z7,z8,z9⟩:=hA4.ten;have hq4:w4.heap[q]?=some (.cells #[.pointer (some ⟨g,0,none⟩)] 73):=(hB4.block q hql).trans HQ.out;have c8:w4.cell? ⟨q,0,none⟩=some (.pointer (some ⟨g,0,none⟩)):=by simp [World.cell?,hq4]
   have f8:w4.frozen? ⟨q,0,none⟩=false:=frozen_of_row w4 q 0 _ _ hq4;have HF:Hid (RopeAt (w4.setCell ⟨q,0,none⟩ (.pointer (some ⟨g4,0,none⟩))) q t4):=ropeAt_set hq4 hA4;have hrl:t4.row.length=t.row.length:=by rw [hr4,bmp_len]
   have hrp:t4.Rp:=⟨hC4,hP4,fun c hc=>(HOK.out c (hr4▸hc)).1,fun c hc=>(HOK.out c (hr4▸hc)).2,by omega⟩;have HR4:Hid (t4.row=bmp l _ 0 t.row):=hr4;clear hr4 hq4 hrl hbo c3 hA4;go_wp2_with fail;go_ret;exact ⟨rfl,⟨t4,HF.out,hrp,HR4.out⟩,(Upd.ofBelow hB4).trans (upd_set q _)⟩
 ·skip
  go_enter Tryz.func26,Tryz.ntmps26;go_wp2_with fail;refine HCK.mono ?_;rintro e w1 ⟨rfl,hb1⟩;clear HCK;rcases Nat.eq_zero_or_pos m with h0|h0
  ·subst h0;go_wp2_with fail;refine wp_region_held_drew (S:=(fun _=>True)) (by kernel_rfl) ?hS23 (fun hHeld=>?rest23)
   case hS23=>trivial
   refine tD 0 (some 24) ?_
   try simp only [putS]
   refine tD 1 (some 25) ?_
   try simp only [putS]
   refine tD 2 (some 26) ?_
   try simp only [putS]
   refine tD 3 (some 27) ?_
   try simp only [putS]
   refine tU 4 (some 28) ?_
   try simp only [putS]
   refine tU 5 (some 29) ?_
   try simp only [putS]
   refine tU 6 (some 30) ?_
   try simp only [putS]
   refine tU 7 (some 31) ?_
   try simp only [putS]
   refine tU 8 (some 32) ?_
   try simp only [putS]
   refine tU 9 (some 33) ?_
   try simp only [putS]
   refine tU 10 (some 34) ?_
   try simp only [putS]
   refine tU 11 (some 35) ?_
   try simp only [putS]
   refine tU 12 (some 36) ?_
   try simp only [putS]
   refine tU 13 (some 37) ?_
   try simp only [putS]
   refine tD 14 (some 38) ?_
   try simp only [putS]
   refine wpAnyH_done (by kernel_rfl) ?_ _;have hbd:Below w.heap.size w w1.drew:=by first|exact hb1|exact hb1.drew
   have c3:=(hbd.cell (p:=⟨q,0,none⟩) hql).trans c0;clear c0;go_wp2_with fail;refine (HBP.out _ hbd).mono ?_;rintro e w4 ⟨g4,t4,rfl,hA4,hC4,hP4,hr4,hb4⟩;have hB4:=hbd.trans (hb4.mono hbd.size);have hbo:=hC4.bounds (by rw [hr4];exact HOK.out);have hz0:decide (t4.sm.least<0)=false:=decide_eq_false (by omega);have hz1:decide (1048576<t4.sm.most)=false:=decide_eq_false (by omega);obtain ⟨z0,z1,z2,z3,z4,z5,z6,z7,z8,z9⟩:=hA4.ten;have hq4:w4.heap[q]?=some (.cells #[.pointer (some ⟨g,0,none⟩)] 73):=(hB4.block q hql).trans HQ.out;have c8:w4.cell? ⟨q,0,none⟩=some (.pointer (some ⟨g,0,none⟩)):=by simp [World.cell?,hq4]
   have f8:w4.frozen? ⟨q,0,none⟩=false:=frozen_of_row w4 q 0 _ _ hq4;have HF:Hid (RopeAt (w4.setCell ⟨q,0,none⟩ (.pointer (some ⟨g4,0,none⟩))) q t4):=ropeAt_set hq4 hA4;have hrl:t4.row.length=t.row.length:=by rw [hr4,bmp_len]
   have hrp:t4.Rp:=⟨hC4,hP4,fun c hc=>(HOK.out c (hr4▸hc)).1,fun c hc=>(HOK.out c (hr4▸hc)).2,by omega⟩;have HR4:Hid (t4.row=bmp l _ 0 t.row):=hr4;clear hr4 hq4 hrl hbo c3 hA4;go_wp2_with fail;go_ret;exact ⟨rfl,⟨t4,HF.out,hrp,HR4.out⟩,(Upd.ofBelow hB4).trans (upd_set q _)⟩
  ·obtain ⟨M,rfl⟩:∃ M,m=M+1:=⟨m-1,by omega⟩;obtain ⟨ga,off,x,rfl,hga,hx,hc⟩:=HL.out.at M (by omega);have HX:Hid (w.cell? ⟨ga,off+M*2+1,none⟩=some (.int .i64 x.2)):=hc 1 _ rfl;have c1:w1.cell? ⟨ga,off+M*2+1,none⟩=some (.int .i64 x.2):=(hb1.cell (p:=⟨ga,off+M*2+1,none⟩) hga).trans HX.out;have hx2:¬ (t.row.length:Int)<x.2:=by have:=(HB.out x (List.mem_of_getElem? hx)).2;omega
   have b2:decide ((t.row.length:Int)<x.2)=false:=decide_eq_false hx2;have u2:IntKind.i64.wrap (M:Int)=(M:Int):=IntWalk.i64_in _ (by omega);have u3:(M:Int)<(M:Int)+1:=by omega
   clear hc hx hx2;go_wp2_with fail;refine wp_region_held_drew (S:=(fun W=>W.cell? ⟨ga,off+M*2+1,none⟩=some (.int .i64 x.2))) (by kernel_rfl) ?hS29 (fun hHeld=>?rest29)
   case hS29=>(first|exact c1|exact c2)
   refine tD 0 (some 24) ?_
   try simp only [putS]
   refine tD 1 (some 25) ?_
   try simp only [putS]
   refine tD 2 (some 26) ?_
   try simp only [putS]
   refine tD 3 (some 27) ?_
   try simp only [putS]
   refine tD 4 (some 28) ?_
   try simp only [putS]
   refine tD 5 (some 29) ?_
   try simp only [putS]
   refine tD 6 (some 30) ?_
   try simp only [putS]
   refine tD 7 (some 31) ?_
   try simp only [putS]
   refine tD 8 (some 32) ?_
   try simp only [putS]
   refine tD 9 (some 33) ?_
   try simp only [putS]
   refine tD 10 (some 34) ?_
   try simp only [putS]
   refine tD 11 (some 35) ?_
   try simp only [putS]
   refine wpAnyH_ready (rs:=[12]) (by kernel_rfl) (by simp) ?_;refine AllReadyH.cons rfl (fun K hK=>?_) AllReadyH.nil;go_simp;refine (HT.out _ ?_).mono ?_
   ·first|exact hb1|exact hb1.drew
   rintro e2 w2 ⟨rfl,hw2⟩;have hb2:Below w.heap.size w w2:=by rw [hw2];first|exact hb1|exact hb1.drew
   have c2:w2.cell? ⟨ga,off+M*2+1,none⟩=some (.int .i64 x.2):=(hb2.cell (p:=⟨ga,off+M*2+1,none⟩) hga).trans (HX.out);clear hb1 hw2 c1;have hb1:=hb2;clear hHeld;refine hK.out _ _ ?hS42 (fun hHeld=>?rest42)
   case hS42=>(first|exact c1|exact c2)
   clear hK K
   try simp only [putS]
   refine tD 13 (some 37) ?_
   try simp only [putS]
   refine tD 14 (some 38) ?_
   try simp only [putS]
   refine wpAnyH_done (by kernel_rfl) ?_ _;have hbd:Below w.heap.size w w2:=by first|exact hb1|exact hb1.drew
   have c3:=(hbd.cell (p:=⟨q,0,none⟩) hql).trans c0;clear c0;go_wp2_with fail;refine (HBP.out _ hbd).mono ?_;rintro e w4 ⟨g4,t4,rfl,hA4,hC4,hP4,hr4,hb4⟩;have hB4:=hbd.trans (hb4.mono hbd.size);have hbo:=hC4.bounds (by rw [hr4];exact HOK.out);have hz0:decide (t4.sm.least<0)=false:=decide_eq_false (by omega);have hz1:decide (1048576<t4.sm.most)=false:=decide_eq_false (by omega);obtain ⟨z0,z1,z2,z3,z4,z5,z6,z7,z8,z9⟩:=hA4.ten;have hq4:w4.heap[q]?=some (.cells #[.pointer (some ⟨g,0,none⟩)] 73):=(hB4.block q hql).trans HQ.out;have c8:w4.cell? ⟨q,0,none⟩=some (.pointer (some ⟨g,0,none⟩)):=by simp [World.cell?,hq4]
   have f8:w4.frozen? ⟨q,0,none⟩=false:=frozen_of_row w4 q 0 _ _ hq4;have HF:Hid (RopeAt (w4.setCell ⟨q,0,none⟩ (.pointer (some ⟨g4,0,none⟩))) q t4):=ropeAt_set hq4 hA4;have hrl:t4.row.length=t.row.length:=by rw [hr4,bmp_len]
   have hrp:t4.Rp:=⟨hC4,hP4,fun c hc=>(HOK.out c (hr4▸hc)).1,fun c hc=>(HOK.out c (hr4▸hc)).2,by omega⟩;have HR4:Hid (t4.row=bmp l _ 0 t.row):=hr4;clear hr4 hq4 hrl hbo c3 hA4;go_wp2_with fail;go_ret;exact ⟨rfl,⟨t4,HF.out,hrp,HR4.out⟩,(Upd.ofBelow hB4).trans (upd_set q _)⟩
section
variable {F : Fence} {n : Nat} {P : Program}
def SeqV {α:Type} (F:Fence) (n:Nat) (P:Program) (g:Nat) (lb:Array Value) (encs:α→Array Value) (Kp:World→World→Prop) (V:α→World→Prop) (S Sp:List α→Prop) (w:World):Prop :=
 ∀ (l:Nat) (J Jx:List α→World→Prop) (W:World),Below w.heap.size w W→(∀ s A B,J s A→Below A.heap.size A B→J s B) →
  (∀ m pre x W1,J pre W1→V x W1→Sp (pre++[x])→YieldAt F m P l (encs x) W1 fun e W'=>(e=.returned (.bool true)∧J (pre++[x]) W'∧Kp W1 W')∨(e=.returned (.bool false)∧Jx (pre++[x]) W')) →
  J [] W→CallsIn F n P g (#[.func (.yield l) #[] #[]]++lb) W fun e W'=>(∃ v,e=.returned v)∧((∃ xs,S xs∧J xs W')∨(∃ pre,Sp pre∧Jx pre W'))
theorem grown_of_below {A B:World} (h:Below A.heap.size A B):A.grownBy B none:=⟨h.os,h.tape,h.output,h.size,fun k hk _=>h.block k hk⟩
theorem ownBelow {β:Type} {B0:Nat} {I:β→World→Prop} (h:OwnFrom B0 I) {s:β} {A B:World} (hs:I s A) (hb:Below A.heap.size A B):I s B:=h s A B none hs (grown_of_below hb) (fun r e=>by cases e)
def recOf (fn:FuncId) (tmps:Array Value) (ps:Array Tmp) (assign body:Code) (D:Nat) (st:LoopState) (pe:Option Code):Loop:={ state:=st,pending:=pe,fn:=fn,tmps:=tmps,params:=ps,assign:=assign,body:=body,defers:=D }
theorem round_v {α:Type} {fn:FuncId} {tmps:Array Value} {ps:Array Tmp} {assign body:Code} {D:Nat} (hfn:F.fn fn) {Kp:World→World→Prop} {I:List α→World→Prop} {Ix:Code→List α→World→Prop} (hI:OwnFrom D I) (hIx:∀ c,OwnFrom D (Ix c))
  {V:α→World→Prop} (hV:∀ x,OwnFrom D (fun (_:Unit) W=>V x W)) (hKt:∀ {A B C:World},Kp A B→Kp B C→Kp A C) (hKb:∀ (W:World) (l:Nat) (o o':Obj),D≤l→W.heap[l]?=some o→o.isCells=false→o.isWalk=false→Kp W (W.putObj l o'))
  {encs:α→Array Value} (hps:∀ x,(encs x).size=ps.size) {m k:Nat} (hd:F.depth=none) (a₁:α→Act)
  (hassign:∀ (l:Nat) (x:α) (W:World) (K:Act→World→Prop),K (a₁ x) W→assign.wpIn (F.inRound l) k P (Exit.then K (fun _ _ _=>False)) { tmps:=(ps.zip (encs x)).foldl (fun t (p,v)=>t.setIfInBounds p v) tmps,defers:=[] } W)
  {Sp:List α→Prop} (hbody:∀ (l:Nat) (pre:List α) (x:α) (W:World),I pre W→V x W→Sp (pre++[x])→body.wpIn (F.inRound l) k P (ownPostG D Kp I Ix (pre++[x]) W) (a₁ x) W)
  (pre:List α) (x:α) (W:World) (hi:I pre W) (hv:V x W) (hsp:Sp (pre++[x])) (hl:W.heap[D+1]?=some (.loop (recOf fn tmps ps assign body D .ready none))) (hk:W.heap[D]?=some (.deferred (some []))) :
  YieldAt F m P (D+1) (encs x) W fun e W'=>(e=.returned (.bool true)∧(I (pre++[x]) W'∧W'.heap[D+1]?=some (.loop (recOf fn tmps ps assign body D .ready none))∧W'.heap[D]?=some (.deferred (some [])))∧Kp W W') ∨
   (e=.returned (.bool false)∧∃ c,Ix c (pre++[x]) W'∧W'.heap[D+1]?=some (.loop (recOf fn tmps ps assign body D .done (some c)))∧W'.heap[D]?=some (.deferred (some []))):=by
 have hlt:D+1<W.heap.size:=(gA hl);have any:∀ {mm m':Nat} {f:FuncId} {t:Array Value} {as_ bd:Code} {R:Ending→World→Prop},RoundIn F mm P (D+1) f t as_ bd W R→RoundIn F m' P (D+1) f t as_ bd W R:=fun h=>⟨h.1,fun c cs _=>h.2 c cs (fun d e=>by rw [hd] at e;cases e)⟩
 refine ⟨fn,_,assign,body,run_yield (P:=P) (args:=encs x) hl (hps x),any (roundIn_of_wpIn (n:=k) hfn (hassign _ x W _ ⟨_,run_beginRound hl rfl,?_⟩))⟩;generalize hbz:W.putObj (D+1) (.loop { recOf fn tmps ps assign body D .ready none with state:=.busy })=Wz;have z1:Wz.heap[D+1]?=some (.loop { recOf fn tmps ps assign body D .ready none with state:=.busy }):=by rw [← hbz];exact World.putObj_heap_same hlt
 have z2:Wz.heap[D]?=some (.deferred (some [])):=by rw [← hbz];exact (World.putObj_heap_other (by omega)).trans hk
 have z3:Kp W Wz:=by rw [← hbz];exact hKb _ _ _ _ (by omega) hl rfl rfl
 have z4:I pre Wz:=by rw [← hbz];exact hI.putObj _ hi (by omega) hl rfl
 have z5:V x Wz:=by rw [← hbz];exact (hV x).putObj (s:=()) _ hv (by omega) hl rfl
 refine wpIn_mono (hbody (D+1) pre x Wz z4 z5 hsp) ?_
 -- the round's end,whichever way the body was left
 have leave:∀ (j:Option Code) (W3:World),KeepsFrom D Wz W3→∃ v W4,(Instr.endRound (D+1) j).run P W3=.ok v W4∧v=.bool j.isNone∧W3.heap[D+1]?=some (.loop { recOf fn tmps ps assign body D .ready none with state:=.busy }) ∧
   W4=W3.putObj (D+1) (.loop (recOf fn tmps ps assign body D (if j.isNone then .ready else .done) j))∧W4.heap[D+1]?=some (.loop (recOf fn tmps ps assign body D (if j.isNone then .ready else .done) j))∧W4.heap[D]?=some (.deferred (some [])):=fun j W3 hkf=>by
  have y1:=hkf.same _ _ (by omega) z1 rfl;have y2:=hkf.same _ _ (lR _) z2 rfl;exact ⟨_,_,run_endRound (P:=P) j y1,rfl,y1,rfl,World.putObj_heap_same (gA y1),(World.putObj_heap_other (by omega)).trans y2⟩
 intro e a3 W3 hp;cases e with
 | normal =>
  obtain ⟨v,W4,r1,rfl,r2,rfl,r3,r4⟩:=leave none W3 hp.1;exact ⟨_,_,r1,.inl ⟨rfl,⟨hI.putObj _ hp.2.2 (by omega) r2 rfl,r3,r4⟩,hKt z3 (hKt hp.2.1 (hKb _ _ _ _ (by omega) r2 rfl rfl))⟩⟩
 | ret =>
  obtain ⟨v,W4,r1,rfl,r2,rfl,r3,r4⟩:=leave (some .ret) W3 hp.1;exact ⟨_,_,r1,.inr ⟨rfl,_,(hIx _).putObj _ hp.2 (by omega) r2 rfl,r3,r4⟩⟩
 | exit id =>
  obtain ⟨v,W4,r1,rfl,r2,rfl,r3,r4⟩:=leave (some (.exit id)) W3 hp.1;exact ⟨_,_,r1,.inr ⟨rfl,_,(hIx _).putObj _ hp.2 (by omega) r2 rfl,r3,r4⟩⟩
 | goto t =>
  obtain ⟨v,W4,r1,rfl,r2,rfl,r3,r4⟩:=leave (some (.goto t)) W3 hp.1;exact ⟨_,_,r1,.inr ⟨rfl,_,(hIx _).putObj _ hp.2 (by omega) r2 rfl,r3,r4⟩⟩
 | panic ch=>exact hp.elim
 | outgrown=>exact hp.elim
theorem rangeV {α:Type} {g:Operand} {ps:Array Tmp} {assign body:Code} {Q:Exit→Act→World→Prop} {a:Act} {w:World}
  (hro:F.round=none) (hd:F.depth=none) (h1:1≤n) {gf:Nat} {lb:Array Value} (hg:a.eval g=.func (.func gf) #[] lb) (hFg:F.fn gf) (eg:∀ args w,(callFunc gf args).run P w=.ok (.enter gf args) w)
  {encs:α→Array Value} {Kp:World→World→Prop} {V:α→World→Prop} {S Sp:List α→Prop} {w0:World} (hseq:SeqV F (n-1) P gf lb encs Kp V S Sp w0)
  (hKt:∀ {A B C:World},Kp A B→Kp B C→Kp A C) (hKb:∀ (W:World) (l:Nat) (o o':Obj),w.heap.size≤l→W.heap[l]?=some o→o.isCells=false→o.isWalk=false→Kp W (W.putObj l o')) (hb0:Below w0.heap.size w0 w) (hps:∀ x,(encs x).size=ps.size)
  (I:List α→World→Prop) (Ix:Code→List α→World→Prop) (hI:OwnFrom w.heap.size I) (hIx:∀ c,OwnFrom w.heap.size (Ix c)) (hV:∀ x,OwnFrom w.heap.size (fun (_:Unit) W=>V x W)) (h0:I [] w) (a₁:α→Act)
  (hassign:∀ (l:Nat) (x:α) (W:World) (K:Act→World→Prop),K (a₁ x) W→assign.wpIn (F.inRound l) (n-1-1) P (Exit.then K (fun _ _ _=>False)) { tmps:=(ps.zip (encs x)).foldl (fun t (p,v)=>t.setIfInBounds p v) a.tmps,defers:=[] } W)
  (hbody:∀ (l:Nat) (pre:List α) (x:α) (W:World),I pre W→V x W→Sp (pre++[x])→body.wpIn (F.inRound l) (n-1-1) P (ownPostG w.heap.size Kp I Ix (pre++[x]) W) (a₁ x) W)
  (hdone:∀ (D:Nat) (xs:List α) (W:World),w.heap.size≤D→S xs→I xs W→W.heap[D]?=some (.deferred (some []))→Q .normal { a with defers:={ target:=.collected D,args:=#[] }::a.defers } W)
  (hstop:∀ (D:Nat) (c:Code) (pre:List α) (W:World),w.heap.size≤D→Sp pre→Ix c pre W→W.heap[D]?=some (.deferred (some []))→c.wpIn F n P Q { a with defers:={ target:=.collected D,args:=#[] }::a.defers } W) :
  (Code.rangeFunc g ps assign body).wpIn F n P Q a w:=by
 refine wpIn_rangeFunc fun fn hfn=>?_
 rw [hro];generalize hW1:(w.alloc (.deferred (some []))).alloc (.loop (recOf fn a.tmps ps assign body w.heap.size .ready none))=W1;have e1:W1.heap[w.heap.size+1]?=some (.loop (recOf fn a.tmps ps assign body w.heap.size .ready none)):=by
  rw [← hW1];have:=World.alloc_heap_new (w.alloc (.deferred (some []))) (.loop (recOf fn a.tmps ps assign body w.heap.size .ready none))
  rwa [World.size_alloc] at this
 have e2:W1.heap[w.heap.size]?=some (.deferred (some [])):=by
  rw [← hW1];exact (Below.heap_alloc _ _ _ (by simp)).trans (World.alloc_heap_new w _)
 have e3:Below w.heap.size w W1:=by rw [← hW1];exact ((bE _ w).alloc (lR _) _).alloc (by simp) _
 refine ⟨w.heap.size+1,[{ target:=.collected w.heap.size,args:=#[] }],W1,{ target:=.fn (.func gf) lb,args:=#[.func (.yield (w.heap.size+1)) #[] #[]] },W1,gf,#[.func (.yield (w.heap.size+1)) #[] #[]]++lb,W1,?_,?_,?_,?_,fun _=>h1,?_⟩
 ·rw [← hW1];exact run_enterLoop_outer _ _ _ _ _
 ·simp only [resolve,hg];simp [go_sem]
 ·intro f' hf';simp [Target.leads] at hf';subst hf';exact hFg
 ·simp [invoke,go_sem,eg]
 ·refine (hseq (w.heap.size+1)
   (fun pre W=>I pre W∧W.heap[w.heap.size+1]?=some (.loop (recOf fn a.tmps ps assign body w.heap.size .ready none))∧W.heap[w.heap.size]?=some (.deferred (some [])))
   (fun pre W=>∃ c,Ix c pre W∧W.heap[w.heap.size+1]?=some (.loop (recOf fn a.tmps ps assign body w.heap.size .done (some c)))∧W.heap[w.heap.size]?=some (.deferred (some [])))
   W1 (hb0.trans (e3.mono hb0.size))
   (fun s A B hs hb=>⟨ownBelow hI hs.1 hb,(hb.block _ (Array.getElem?_eq_some_iff.1 hs.2.1).1).trans hs.2.1,(hb.block _ (Array.getElem?_eq_some_iff.1 hs.2.2).1).trans hs.2.2⟩)
   (fun m pre x W hJ hv hsp=>round_v (Kp:=Kp) hfn hI hIx hV hKt hKb hps hd a₁ hassign hbody pre x W hJ.1 hv hsp hJ.2.1 hJ.2.2) ⟨ownBelow hI h0 e3,e1,e2⟩).mono ?_
  rintro e W2 ⟨⟨v,rfl⟩,(⟨xs,hS,hi,hl,hk⟩|⟨pre,hSp,c,hi,hl,hk⟩)⟩
  ·exact ⟨none,_,run_endLoop (P:=P) hl (by simp [recOf]),hdone _ xs _ (lR _) hS (hI.putObj _ hi (by omega) hl rfl) ((World.putObj_heap_other (by omega)).trans hk)⟩
  ·exact ⟨some c,_,run_endLoop (P:=P) hl (by simp [recOf]),hstop _ c pre _ (lR _) hSp ((hIx c).putObj _ hi (by omega) hl rfl) ((World.putObj_heap_other (by omega)).trans hk)⟩
end
end Go.Proofs.YtijpfbcippijoaaGreatDoor
namespace Go.Proofs.YtijpfbcippijoaaGreatDoor
def one (p:List Int×Int) (f lo hi:Int):List (Int×List Int×Int) :=
 if max lo f<min hi (f+p.1.length) then [(max lo f,(p.1.take (min hi (f+p.1.length)-f).toNat).drop (max lo f-f).toNat,p.2)] else []
def gv:List (List Int×Int)→Int→Int→Int→List (Int×List Int×Int)
 | [],_,_,_=>[]
 | p::t,f,lo,hi=>one p f lo hi++gv t (f+p.1.length) lo hi
theorem gv_append:∀ (l k:List (List Int×Int)) (f lo hi:Int),gv (l++k) f lo hi=gv l f lo hi++gv k (f+(rowOf l).length) lo hi
 | [],k,f,lo,hi=>by simp [gv,rowOf]
 | p::t,k,f,lo,hi=>by
  have ih:=gv_append t k (f+p.1.length) lo hi;have e:((rowOf (p::t)).length:Int)=p.1.length+(rowOf t).length:=by rw [rowOf_cons,List.length_append,List.length_map];omega
  rw [List.cons_append];simp only [gv];rw [ih,e,List.append_assoc,Int.add_assoc]
theorem gv_none:∀ (l:List (List Int×Int)) (f lo hi:Int),min hi (f+(rowOf l).length)≤max lo f→gv l f lo hi=[]
 | [],_,_,_,_=>rfl
 | p::t,f,lo,hi,h=>by
  have e:((rowOf (p::t)).length:Int)=p.1.length+(rowOf t).length:=by rw [rowOf_cons,List.length_append,List.length_map];omega
  rw [e] at h;simp only [gv];rw [gv_none t (f+p.1.length) lo hi (by omega)];unfold one;rw [if_neg (by omega)];rfl
theorem gv_clip:∀ (l:List (List Int×Int)) (f lo hi F H:Int),F≤f→f+(rowOf l).length≤H→gv l f (max lo F) (min hi H)=gv l f lo hi
 | [],_,_,_,_,_,_,_=>rfl
 | p::t,f,lo,hi,F,H,h1,h2=>by
  have e:((rowOf (p::t)).length:Int)=p.1.length+(rowOf t).length:=by rw [rowOf_cons,List.length_append,List.length_map];omega
  rw [e] at h2;simp only [gv];rw [gv_clip t (f+p.1.length) lo hi F H (by omega) (by omega)]
  congr 1
  unfold one;rw [show max (max lo F) f=max lo f by omega,show min (min hi H) (f+p.1.length)=min hi (f+p.1.length) by omega]
end Go.Proofs.YtijpfbcippijoaaGreatDoor
namespace Go.Proofs.YtijpfbcippijoaaGreatDoor
open Go.RowKit Go.Lib Go.Shelf
attribute [local go_sem] Oper.semAt_some
theorem At.avoid {w:World} {D:Nat→Prop} (h1:∀ (b:Nat) (cs:Array Value) fr,w.heap[b]?=some (.cells cs 96 fr)→D b) (h2:∀ (b:Nat) (cs:Array Value) fr,w.heap[b]?=some (.cells cs 21 fr)→D b):∀ {t:Tr} {g:Nat},At w t g→AtD w D t g
 | .nil,g,h=>⟨h1 g _ _ h,h⟩
 | .leaf rs _ _,g,⟨a,cap,k1,k2⟩=>⟨h1 g _ _ k1,a,cap,k1,k2,fun h0 gr off e=>by
   obtain ⟨cs,fr,hh⟩:=k2.typ h0 gr off e
   exact h2 gr cs fr hh⟩
 | .node _ _ _,g,⟨gl,gr,k1,k2,k3⟩=>⟨h1 g _ _ k1,gl,gr,k1,At.avoid h1 h2 k2,At.avoid h1 h2 k3⟩
structure KpT (W W':World):Prop where
 size:W.heap.size≤W'.heap.size
 node:∀ (b:Nat) (cs:Array Value) fr,W.heap[b]?=some (.cells cs 96 fr)→W'.heap[b]?=W.heap[b]?
 rune:∀ (b:Nat) (cs:Array Value) fr,W.heap[b]?=some (.cells cs 21 fr)→W'.heap[b]?=W.heap[b]?
theorem KpT.trans {A B C:World} (h:KpT A B) (k:KpT B C):KpT A C :=
 ⟨Nat.le_trans h.size k.size,fun b cs fr hb=>(k.node b cs fr ((h.node b cs fr hb).trans hb)).trans (h.node b cs fr hb),fun b cs fr hb=>(k.rune b cs fr ((h.rune b cs fr hb).trans hb)).trans (h.rune b cs fr hb)⟩
theorem KpT.below {A B:World} (h:Below A.heap.size A B):KpT A B:=⟨h.size,fun b _ _ hb=>h.block b (gA hb),fun b _ _ hb=>h.block b (gA hb)⟩
theorem KpT.grown {A B:World} {row:Option Nat} (h:A.grownBy B row) (hr:∀ r o,row=some r→A.heap[r]?=some o→(∀ cs fr,o≠.cells cs 96 fr)∧(∀ cs fr,o≠.cells cs 21 fr)):KpT A B :=
 ⟨h.size,fun b cs fr hb=>h.block b (gA hb) (fun e=>(hr b _ e.symm hb).1 cs fr rfl),fun b cs fr hb=>h.block b (gA hb) (fun e=>(hr b _ e.symm hb).2 cs fr rfl)⟩
theorem kpT_b {w:World} (W:World) (l:Nat) (o o':Obj) (_:w.heap.size≤l) (h:W.heap[l]?=some o) (hc:o.isCells=false) (_:o.isWalk=false):KpT W (W.putObj l o') :=
 KpT.grown (grownBy_putObj' W l o') (fun r o2 e hr=>by
  cases e
  rw [h] at hr
  cases hr
  exact ⟨fun cs fr e=>by rw [e] at hc;simp [Obj.isCells] at hc,fun cs fr e=>by rw [e] at hc;simp [Obj.isCells] at hc⟩)
theorem At.kpT {W W':World} {t:Tr} {g:Nat} (h:At W t g) (hk:KpT W W'):At W' t g:=by
 have h1:AtD W (fun b=>W'.heap[b]?=W.heap[b]?) t g:=h.avoid hk.node hk.rune;exact (h1.keep (fun b hb=>hb) hk.size).at
structure Pc where
 at_:Int
 g:Nat
 rs:List Int
 h:Int
def Pc.dat (x:Pc):Int×List Int×Int:=(x.at_,x.rs,x.h)
def Pc.encs (x:Pc):Array Value:=#[.int .i64 x.at_,.pointer (some ⟨x.g,0,none⟩)]
def Pc.V (x:Pc) (W:World):Prop:=∃ st,At W (.leaf x.rs x.h st) x.g∧(Tr.leaf x.rs x.h st).Fine∧x.rs.length≤32∧∀ r∈x.rs,okR r
def Okl (l:List (List Int×Int)):Prop:=∀ p∈l,∀ r∈p.1,okR r
theorem Okl.left {l k:List (List Int×Int)} (h:Okl (l++k)):Okl l:=fun p hp=>h p (List.mem_append_left _ hp)
theorem Okl.right {l k:List (List Int×Int)} (h:Okl (l++k)):Okl k:=fun p hp=>h p (List.mem_append_right _ hp)
theorem pc_own (B:Nat) (x:Pc):OwnFrom B (fun (_:Unit) W=>x.V W):=fun _ A C row hs hg hr=>by
 obtain ⟨st,h1,h2⟩:=hs;refine ⟨st,h1.kpT (KpT.grown hg fun r o e ho=>?_),h2⟩;obtain ⟨_,o2,ho2,hc⟩:=hr r e;rw [ho] at ho2;cases ho2;exact ⟨fun cs fr e=>by rw [e] at hc;simp [Obj.isCells] at hc,fun cs fr e=>by rw [e] at hc;simp [Obj.isCells] at hc⟩
end Go.Proofs.YtijpfbcippijoaaGreatDoor
