import Derived.Test.YtijpfbcippijoaaGreatDoorAl
import Derived.Test.YtijpfbcippijoaaGreatDoorGr116
import Derived.Test.YtijpfbcippijoaaGreatDoorRsC
import Derived.Test.YtijpfbcippijoaaGreatDoorGr136
import Derived.Test.YtijpfbcippijoaaGreatDoorGr137
import Derived.Test.YtijpfbcippijoaaGreatDoorGr129
import Derived.Test.YtijpfbcippijoaaGreatDoorQjC
set_option maxHeartbeats 4000000
set_option maxRecDepth 100000
namespace Go.Proofs.YtijpfbcippijoaaGreatDoor
open Go.RowKit Go.Lib
def rowRuns (R:List (Int×Int)):List GRun:=(runsOfRow R).map gr
theorem rowRuns_same {L:List GRun} (hF:FromOk L):rowRuns (cellsOf L)=L:=by
 have e:cellsOf L=rowOf (L.map fun x=>(x.rs,x.h)):=by simp [cellsOf,rowOf,List.flatMap_map]
 unfold rowRuns
 rw [e,runs_of (fun p hp=>by obtain ⟨x,hx,rfl⟩:=List.mem_map.1 hp;exact hF.some_ x hx) (alt_of fun j x y hx hy=>by
  rw [List.getElem?_map,Option.map_eq_some_iff] at hx hy
  obtain ⟨p,hp,rfl⟩:=hx
  obtain ⟨p2,hp2,rfl⟩:=hy
  exact hF.apart j p p2 hp hp2),List.map_map]
 conv=>rhs;rw [← List.map_id L]
 refine List.map_congr_left fun x hx=>?_
 have:=tx_eq (hF.text x hx).bytes;obtain ⟨s,rs,k⟩:=x;simp only at this;simp [gr,this]
theorem rowRuns_len (R:List (Int×Int)):(rowRuns R).length≤R.length:=by
 have h1:=runs_some R;have h2:∀ l:List (List Int×Int),(∀ p∈l,p.1≠[])→l.length≤(rowOf l).length:=fun l=>by
  induction l with
  | nil=>intro _;exact lR _
  | cons p t ih =>
   intro h;have h3:=ih fun q hq=>h q (by simp [hq])
   have h4:=List.length_pos_iff.2 (h p (by simp));rw [rowOf_cons,List.length_append,List.length_map,List.length_cons];omega
 have h3:=h2 _ h1;rw [runs_row] at h3;unfold rowRuns;rw [List.length_map];exact h3
theorem Holds.runsR {w2:World} {q:Nat} {R:List (Int×Int)} {W:World} (h:Holds w2 q R W) (ho:∀ c∈R,okR c.1):Calls Tryz.prog 13 #[.pointer (some ⟨q,0,none⟩)] W fun e W'=>∃ a cap,e=.returned (.slice a (rowRuns R).length cap)∧Rw runV 2 W' a (rowRuns R).length cap (rowRuns R)∧Holds w2 q R W'∧Below W.heap.size W W':=by
 have h':=h;obtain ⟨t,k1,k2,rfl,k3⟩:=h;refine (ropeRuns_any k1 k2 (okl_row ho)).mono fun e W' ⟨v,he,hw,hb⟩=>?_
 obtain ⟨a,cap,rfl⟩:=hw.shape;exact ⟨a,cap,he,hw.rw_ layR,h'.still hb,hb⟩
theorem norm_low:∀ {l:List (Int×Int)} {b:Int},Sp.Norm b l→∀ x∈l,b<x.1
 | [],_,_,x,hx=>(by cases hx)
 | y::l,b,h,x,hx=>by
  rcases List.mem_cons.1 hx with rfl|hx
  ·exact h.1
  ·have:=norm_low h.2.2 x hx;have h2:=h.2.1;have h1:=h.1;omega
theorem srt_norm:∀ {l:List (Int×Int)} {b:Int},Sp.Norm b l→Srt l
 | [],_,_=>⟨fun x hx=>(by cases hx),fun i j x y _ hx=>(by simp at hx)⟩
 | y::l,b,h=>by
  have ih:=srt_norm h.2.2;refine ⟨fun x hx=>?_,fun i j x z hij hx hz=>?_⟩
  ·rcases List.mem_cons.1 hx with rfl|hx
   ·exact h.2.1
   ·exact ih.some_ x hx
  ·cases i with
   | zero =>
    simp at hx;subst hx;cases j with
    | zero=>omega
    | succ j =>
     simp at hz;exact norm_low h.2.2 z (List.mem_of_getElem? hz)
   | succ i =>
    cases j with
    | zero=>omega
    | succ j=>exact ih.apart i j x z (by omega) (by simpa using hx) (by simpa using hz)
theorem srt_last {l:List (Int×Int)} (hs:Srt l) {x:Int×Int} (hx:x∈l):x.2≤lastHi l:=by
 have hpos:0<l.length:=List.length_pos_of_mem hx;obtain ⟨j,hj⟩:=List.getElem?_of_mem hx;have hjl:=(List.getElem?_eq_some_iff.1 hj).1;have hl:l[l.length-1]?=some l[l.length-1]:=List.getElem?_eq_getElem (by omega);have e:lastHi l=l[l.length-1].2:=by
  unfold lastHi;rw [List.getD_eq_getElem?_getD,hl];rfl
 rw [e];by_cases h:j=l.length-1
 ·subst h;rw [hl] at hj;injection hj with hj
  rw [hj];exact Int.le_refl _
 ·have h1:=hs.apart j (l.length-1) x _ (by omega) hj hl;have h2:=hs.some_ _ (List.getElem_mem (show l.length-1<l.length by omega));omega
theorem ck_ins_of {o:OpV} {N:Nat} (h:opCheck o (N:Int)=0) (hk:o.k=1):∃ (m:Nat) (rs:List Int),o.p=(m:Int)∧m≤N∧IsText o.s rs∧rs≠[]∧rs.length≤256∧N+rs.length≤1048576:=by
 obtain ⟨_,_,_,_,_,h1,_⟩:=opCheck_zero h;obtain ⟨p0,p1,e0,e1,e2,e3⟩:=insP_code _ _ (h1 hk);rcases check_split o.s with ⟨rs,hb,hr,hc⟩|hbad
 ·rw [hc] at e1 e2 e3;simp only at e1 e2 e3;exact ⟨o.p.toNat,rs,by omega,by omega,⟨hb,hr⟩,fun e=>by rw [e] at e1;simp at e1,by omega,by omega⟩
 ·exfalso;obtain ⟨rs,rest,hb,hr,hx,hc⟩:=hbad;rw [hc] at e1;exact e1 rfl
theorem ck_rng_of {o:OpV} {N:Nat} (h:opCheck o (N:Int)=0) (hk:o.k=2∨o.k=3):o.l≠[]∧Srt o.l∧(∀ x∈o.l,0≤x.1∧x.2≤(N:Int))∧o.l.length≤32768:=by
 obtain ⟨_,_,_,_,_,_,h1,_⟩:=opCheck_zero h;have h2:=h1 hk;unfold rngP at h2;split at h2
 ·cases h2
 rename_i hn
 split at h2
 ·rename_i hc;exact absurd h2 hc
 rename_i hc
 split at h2
 ·cases h2
 rename_i hl
 have hL:=Sp.checkL_ok (by simpa using hc);have hs:=srt_norm hL.norm;refine ⟨hn,hs,fun x hx=>?_,hL.few⟩;have h3:=hL.nonneg x hx;have h4:=srt_last hs hx;omega
theorem apply_above {w2:World} {q:Nat} {R:List (Int×Int)} {W:World} (h:Holds w2 q R W) (hBar:Bar w2) {c n p:Int} {s:ByteArray} {l:List (Int×Int)} {tc tn:Int} {on:Bool} {a:Option Addr} {m cap:Nat} (hl:Sp.Rng W a m cap l) (hs:s.size≤9223372036854775807) (hok:opCheck ⟨c,n,2,p,s,l,tc,tn,on⟩ (R.length:Int)=0) (hout:∃ c∈bmp l (1) 0 R,1048576<c.2) :
  Calls Tryz.prog 11 #[.pointer (some ⟨q,0,none⟩),opVal ⟨c,n,2,p,s,l,tc,tn,on⟩ (.slice a m cap)] W fun e W'=>e=.returned (.int .i64 31)∧Below W.heap.size W W':=by
 obtain ⟨_,hsr,hbd,hfew⟩:=ck_rng_of hok (by simp);have hml:=hl.len;refine (apply_hide_to h hl hs hBar hok (Q:=fun x W'=>x=31∧Below W.heap.size W W') fun W1 hb=>?_).mono ?_
 ·obtain ⟨t,k1,k2,rfl,k3⟩:=h;exact (bump_above (k1.below hb) k2 ((rw_piece hl).below hb) (by simp only at hfew;omega) hsr hbd hout).mono fun e W' ⟨he,hb2⟩=>⟨31,he,rfl,hb.trans (hb2.mono hb.size)⟩
 ·rintro e W' ⟨x,rfl,rfl,h1⟩;exact ⟨rfl,h1⟩
theorem apply_aboveOk {w2:World} {q:Nat} {R:List (Int×Int)} {W:World} (h:Holds w2 q R W) (hq:w2.heap.size≤q) (hBar:Bar w2) {c n p:Int} {s:ByteArray} {l:List (Int×Int)} {tc tn:Int} {on:Bool} {a:Option Addr} {m cap:Nat} (hl:Sp.Rng W a m cap l) (hs:s.size≤9223372036854775807) (hok:opCheck ⟨c,n,2,p,s,l,tc,tn,on⟩ (R.length:Int)=0) (hin:∀ c∈bmp l (1) 0 R,0≤c.2∧c.2≤1048576) :
  Calls Tryz.prog 11 #[.pointer (some ⟨q,0,none⟩),opVal ⟨c,n,2,p,s,l,tc,tn,on⟩ (.slice a m cap)] W fun e W'=>e=.returned (.int .i64 0)∧Holds w2 q (bmp l (1) 0 R) W'∧Upd q W W':=by
 obtain ⟨_,hsr,hbd,hfew⟩:=ck_rng_of hok (by simp);have hml:=hl.len;refine (apply_hide_to h hl hs hBar hok (Q:=fun x W'=>x=0∧Holds w2 q (bmp l (1) 0 R) W'∧Upd q W W') fun W1 hb1=>?_).mono ?_
 ·exact ((h.still hb1).bumpU hq ((rw_piece hl).below hb1) (by simp only at hfew;omega) hsr hbd (1) (by simp) hin).mono fun e W' ⟨he,h1,h2⟩=>⟨0,he,rfl,h1,(Upd.ofBelow hb1).trans h2⟩
 ·rintro e W' ⟨x,rfl,rfl,h1,h2⟩;exact ⟨rfl,h1,h2⟩
theorem apply_below {w2:World} {q:Nat} {R:List (Int×Int)} {W:World} (h:Holds w2 q R W) (hBar:Bar w2) {c n p:Int} {s:ByteArray} {l:List (Int×Int)} {tc tn:Int} {on:Bool} {a:Option Addr} {m cap:Nat} (hl:Sp.Rng W a m cap l) (hs:s.size≤9223372036854775807) (hok:opCheck ⟨c,n,3,p,s,l,tc,tn,on⟩ (R.length:Int)=0) (hout:∃ c∈bmp l (-1) 0 R,c.2<0) :
  Calls Tryz.prog 11 #[.pointer (some ⟨q,0,none⟩),opVal ⟨c,n,3,p,s,l,tc,tn,on⟩ (.slice a m cap)] W fun e W'=>e=.returned (.int .i64 30)∧Below W.heap.size W W':=by
 obtain ⟨_,hsr,hbd,hfew⟩:=ck_rng_of hok (by simp);have hml:=hl.len;refine (apply_show_to h hl hs hBar hok (Q:=fun x W'=>x=30∧Below W.heap.size W W') fun W1 hb=>?_).mono ?_
 ·obtain ⟨t,k1,k2,rfl,k3⟩:=h;exact (bump_below (k1.below hb) k2 ((rw_piece hl).below hb) (by simp only at hfew;omega) hsr hbd hout).mono fun e W' ⟨he,hb2⟩=>⟨30,he,rfl,hb.trans (hb2.mono hb.size)⟩
 ·rintro e W' ⟨x,rfl,rfl,h1⟩;exact ⟨rfl,h1⟩
theorem apply_belowOk {w2:World} {q:Nat} {R:List (Int×Int)} {W:World} (h:Holds w2 q R W) (hq:w2.heap.size≤q) (hBar:Bar w2) {c n p:Int} {s:ByteArray} {l:List (Int×Int)} {tc tn:Int} {on:Bool} {a:Option Addr} {m cap:Nat} (hl:Sp.Rng W a m cap l) (hs:s.size≤9223372036854775807) (hok:opCheck ⟨c,n,3,p,s,l,tc,tn,on⟩ (R.length:Int)=0) (hin:∀ c∈bmp l (-1) 0 R,0≤c.2∧c.2≤1048576) :
  Calls Tryz.prog 11 #[.pointer (some ⟨q,0,none⟩),opVal ⟨c,n,3,p,s,l,tc,tn,on⟩ (.slice a m cap)] W fun e W'=>e=.returned (.int .i64 0)∧Holds w2 q (bmp l (-1) 0 R) W'∧Upd q W W':=by
 obtain ⟨_,hsr,hbd,hfew⟩:=ck_rng_of hok (by simp);have hml:=hl.len;refine (apply_show_to h hl hs hBar hok (Q:=fun x W'=>x=0∧Holds w2 q (bmp l (-1) 0 R) W'∧Upd q W W') fun W1 hb1=>?_).mono ?_
 ·exact ((h.still hb1).bumpU hq ((rw_piece hl).below hb1) (by simp only at hfew;omega) hsr hbd (-1) (by simp) hin).mono fun e W' ⟨he,h1,h2⟩=>⟨0,he,rfl,h1,(Upd.ofBelow hb1).trans h2⟩
 ·rintro e W' ⟨x,rfl,rfl,h1,h2⟩;exact ⟨rfl,h1,h2⟩
theorem apply_insAny {w2:World} {q:Nat} {R:List (Int×Int)} {W:World} (h:Holds w2 q R W) (hq:w2.heap.size≤q) (hBar:Bar w2) {c n:Int} {k:Nat} {s:ByteArray} {rs:List Int} {l:List (Int×Int)} {tc tn:Int} {on:Bool} {a:Option Addr} {m cap:Nat} (hl:Sp.Rng W a m cap l) (hok:opCheck ⟨c,n,1,(k:Int),s,l,tc,tn,on⟩ (R.length:Int)=0) (hk:k≤R.length) (ht:IsText s rs) (hne:rs≠[]) (hle:rs.length≤256) (hN:R.length+rs.length≤1048576) :
  Calls Tryz.prog 11 #[.pointer (some ⟨q,0,none⟩),opVal ⟨c,n,1,(k:Int),s,l,tc,tn,on⟩ (.slice a m cap)] W fun e W'=>e=.returned (.int .i64 0)∧Holds w2 q (putL R k rs 0) W'∧Upd q W W':=by
 have hsz:=ht.small;refine (apply_ins_to h hl (by omega) hBar hok (Q:=fun x W'=>x=0∧Holds w2 q (putL R k rs 0) W'∧Upd q W W') fun W1 hb=>?_).mono ?_
 ·exact ((h.still hb).insertU hq k hk ht hne 0 (Int.le_refl _) (by decide) hN hBar).mono fun e W' ⟨he,h1,h2⟩=>⟨0,he,rfl,h1,(Upd.ofBelow hb).trans h2⟩
 ·rintro e W' ⟨x,rfl,rfl,h1,h2⟩;exact ⟨rfl,h1,h2⟩
theorem apply_no {w2:World} {q:Nat} {R:List (Int×Int)} {W:World} (h:Holds w2 q R W) {c n k p:Int} {s:ByteArray} {l:List (Int×Int)} {tc tn:Int} {on:Bool} {a:Option Addr} {m cap:Nat} (hl:Sp.Rng W a m cap l) (hs:s.size≤9223372036854775807) (hBar:Bar w2) {C:Int} (hok:opCheck ⟨c,n,k,p,s,l,tc,tn,on⟩ (R.length:Int)=C) (hC:C≠0) :
  Calls Tryz.prog 11 #[.pointer (some ⟨q,0,none⟩),opVal ⟨c,n,k,p,s,l,tc,tn,on⟩ (.slice a m cap)] W fun e W'=>e=.returned (.int .i64 C)∧Below W.heap.size W W':=by
 have t1:(C != 0)=true:=by simp [hC]
 have HT:Hid (∀ W',Below W.heap.size W W'→Calls Tryz.prog 24 #[.pointer (some ⟨q,0,none⟩)] W' fun e w'=>e=.returned (.int .i64 (R.length:Int))∧w'=W'):=fun W' hb=>by obtain ⟨t,h1,h2,rfl,h3⟩:=h;exact ropeTotal_any (h1.below hb)
 have HC:Hid (∀ W',Below W.heap.size W W'→Calls Tryz.prog 18 #[.agg #[.int .i64 c,.int .i64 n,.int .i64 k,.int .i64 p,.string s,.slice a m cap,.int .i64 tc,.int .i64 tn,.bool on],.int .i64 (R.length:Int)] W' fun e w'=>e=.returned (.int .i64 C)∧Below W'.heap.size W' w'):=fun W' hb=>by have:=opCheck_any (o:=⟨c,n,k,p,s,l,tc,tn,on⟩) (total:=(R.length:Int)) (hl.below hb) hs (hBar.below (h.below.trans (hb.mono h.below.size)));rw [hok] at this;exact this
 simp only [opVal];clear hok hl hBar h;go_enter Tryz.func11,Tryz.ntmps11;go_wp2_with fail;generalize hWB:W.alloc (Obj.cells #[.int .i64 c,.int .i64 n,.int .i64 k,.int .i64 p,.string s,.slice a m cap,.int .i64 tc,.int .i64 tn,.bool on] 44)=WB;have hB:Below W.heap.size W WB:=hWB▸(bE W.heap.size W).alloc (lR _) _;have hbx:WB.heap[W.heap.size]?=some (.cells #[.int .i64 c,.int .i64 n,.int .i64 k,.int .i64 p,.string s,.slice a m cap,.int .i64 tc,.int .i64 tn,.bool on] 44):=hWB▸alloc_last _ _ _ rfl;clear hWB;refine wp_region_held_drew (S:=(fun X=>X.heap[W.heap.size]?=some (.cells #[.int .i64 c,.int .i64 n,.int .i64 k,.int .i64 p,.string s,.slice a m cap,.int .i64 tc,.int .i64 tn,.bool on] 44))) (by kernel_rfl) ?hS1 (fun hHeld=>?rest1)
 case hS1=>exact hbx
 refine takeD (i:=0) (d:=some 8) (v:=?vT2) rfl rfl (by kernel_rfl) (by kernel_rfl) (by kernel_rfl) (fun _ _ _ h=>h) (Or.inl ⟨by rfl,?hyT2⟩) (by assumption) ?rstT2
 case hyT2=>(intro w hSw;obtain ⟨d0,d1,d2,d3,d4,d5,d6,d7,d8⟩:=box9 hSw;(try dsimp only at hSw);go_simp;(try with_reducible rfl))
 try simp only [putS]
 refine tD 1 (some 9) ?_
 try simp only [putS]
 refine wpAnyH_ready (rs:=[2]) (by kernel_rfl) (by simp) ?_;refine AllReadyH.cons rfl (fun K hK=>?_) AllReadyH.nil;go_simp;refine (HT.out WB.drew hB.drew).mono ?_;rintro e w1 ⟨rfl,hw1⟩;subst hw1;clear hHeld;refine hK.out _ _ ?hS4 (fun hHeld=>?rest4)
 case hS4=>exact hbx
 clear hK K
 try simp only [putS]
 refine wpAnyH_ready (rs:=[3]) (by kernel_rfl) (by simp) ?_;refine AllReadyH.cons rfl (fun K hK=>?_) AllReadyH.nil;go_simp;refine (HC.out WB.drew hB.drew).mono ?_;rintro e w1 ⟨rfl,hb1⟩;have hB1:Below W.heap.size W w1:=hB.drew.trans (hb1.mono hB.drew.size);have hbx1:=(hb1.block _ (gA hbx)).trans hbx;clear hHeld;refine hK.out _ _ ?hS5 (fun hHeld=>?rest5)
 case hS5=>exact hbx1
 clear hK K
 try simp only [putS]
 refine tD 4 (some 5) ?_
 try simp only [putS]
 refine wpAnyH_done (by kernel_rfl) ?_ _;go_wp2_with fail;go_ret;exact ⟨rfl,hB1⟩
theorem apply_status {w2:World} {q:Nat} {R:List (Int×Int)} {W:World} (h:Holds w2 q R W) {c n p:Int} {s:ByteArray} {l:List (Int×Int)} {tc tn:Int} {on:Bool} {a:Option Addr} {m cap:Nat} (hl:Sp.Rng W a m cap l) (hs:s.size≤9223372036854775807) (hBar:Bar w2) (hok:opCheck ⟨c,n,4,p,s,l,tc,tn,on⟩ (R.length:Int)=0) :
  Calls Tryz.prog 11 #[.pointer (some ⟨q,0,none⟩),opVal ⟨c,n,4,p,s,l,tc,tn,on⟩ (.slice a m cap)] W fun e W'=>e=.returned (.int .i64 40)∧Below W.heap.size W W':=by
 have HT:Hid (∀ W',Below W.heap.size W W'→Calls Tryz.prog 24 #[.pointer (some ⟨q,0,none⟩)] W' fun e w'=>e=.returned (.int .i64 (R.length:Int))∧w'=W'):=fun W' hb=>by obtain ⟨t,h1,h2,rfl,h3⟩:=h;exact ropeTotal_any (h1.below hb)
 have HC:Hid (∀ W',Below W.heap.size W W'→Calls Tryz.prog 18 #[.agg #[.int .i64 c,.int .i64 n,.int .i64 4,.int .i64 p,.string s,.slice a m cap,.int .i64 tc,.int .i64 tn,.bool on],.int .i64 (R.length:Int)] W' fun e w'=>e=.returned (.int .i64 0)∧Below W'.heap.size W' w'):=fun W' hb=>by have:=opCheck_any (o:=⟨c,n,4,p,s,l,tc,tn,on⟩) (total:=(R.length:Int)) (hl.below hb) hs (hBar.below (h.below.trans (hb.mono h.below.size)));rw [hok] at this;exact this
 simp only [opVal];clear hok hl hBar h;go_enter Tryz.func11,Tryz.ntmps11;go_wp2_with fail;generalize hWB:W.alloc (Obj.cells #[.int .i64 c,.int .i64 n,.int .i64 4,.int .i64 p,.string s,.slice a m cap,.int .i64 tc,.int .i64 tn,.bool on] 44)=WB;have hB:Below W.heap.size W WB:=hWB▸(bE W.heap.size W).alloc (lR _) _;have hbx:WB.heap[W.heap.size]?=some (.cells #[.int .i64 c,.int .i64 n,.int .i64 4,.int .i64 p,.string s,.slice a m cap,.int .i64 tc,.int .i64 tn,.bool on] 44):=hWB▸alloc_last _ _ _ rfl;clear hWB;refine wp_region_held_drew (S:=(fun X=>X.heap[W.heap.size]?=some (.cells #[.int .i64 c,.int .i64 n,.int .i64 4,.int .i64 p,.string s,.slice a m cap,.int .i64 tc,.int .i64 tn,.bool on] 44))) (by kernel_rfl) ?hS25 (fun hHeld=>?rest25)
 case hS25=>exact hbx
 refine takeD (i:=0) (d:=some 8) (v:=?vT26) rfl rfl (by kernel_rfl) (by kernel_rfl) (by kernel_rfl) (fun _ _ _ h=>h) (Or.inl ⟨by rfl,?hyT26⟩) (by assumption) ?rstT26
 case hyT26=>(intro w hSw;obtain ⟨d0,d1,d2,d3,d4,d5,d6,d7,d8⟩:=box9 hSw;(try dsimp only at hSw);go_simp;(try with_reducible rfl))
 try simp only [putS]
 refine tD 1 (some 9) ?_
 try simp only [putS]
 refine wpAnyH_ready (rs:=[2]) (by kernel_rfl) (by simp) ?_;refine AllReadyH.cons rfl (fun K hK=>?_) AllReadyH.nil;go_simp;refine (HT.out WB.drew hB.drew).mono ?_;rintro e w1 ⟨rfl,hw1⟩;subst hw1;clear hHeld;refine hK.out _ _ ?hS28 (fun hHeld=>?rest28)
 case hS28=>exact hbx
 clear hK K
 try simp only [putS]
 refine wpAnyH_ready (rs:=[3]) (by kernel_rfl) (by simp) ?_;refine AllReadyH.cons rfl (fun K hK=>?_) AllReadyH.nil;go_simp;refine (HC.out WB.drew hB.drew).mono ?_;rintro e w1 ⟨rfl,hb1⟩;have hB1:Below W.heap.size W w1:=hB.drew.trans (hb1.mono hB.drew.size);have hbx1:=(hb1.block _ (gA hbx)).trans hbx;clear hHeld;refine hK.out _ _ ?hS29 (fun hHeld=>?rest29)
 case hS29=>exact hbx1
 clear hK K
 try simp only [putS]
 refine tD 4 (some 5) ?_
 try simp only [putS]
 refine wpAnyH_done (by kernel_rfl) ?_ _;obtain ⟨d0,d1,d2,d3,d4,d5,d6,d7,d8⟩:=box9 hbx1;go_wp2_with fail;go_ret;exact ⟨rfl,hB1⟩
theorem sameRuns_any {w:World} {a b:Option Addr} {n m capa capb:Nat} {L:List GRun} (h:Rw runV 2 w a n capa L) (g:Rw runV 2 w b m capb L) (hm:n≤1048576) :
  Calls Tryz.prog 14 #[.slice a n capa,.slice b m capb] w fun e w'=>e=.returned (.bool true)∧Below w.heap.size w w':=by
 have hn:m=n:=by rw [← g.len,h.len]
 subst hn;have q1:((m:Int) != (m:Int))=false:=by simp
 go_enter Tryz.func14,Tryz.ntmps14;go_wp2_with fail;go_loopw [5] (fun vi wr=>∃ i:Nat,i≤m∧vi=.int .i64 (i:Int)∧Below w.heap.size w wr) (fun i _=>m-(RowKit.intOf i).toNat)
 case atStart=>exact ⟨0,Nat.zero_le _,rfl,bE _ _⟩
 case round =>
  obtain ⟨i,hi,rfl,hB⟩:=hrel;by_cases hlt:i<m
  ·obtain ⟨ga,oa,x,rfl,hga,hx,hc⟩:=(h.below hB).at i hlt;obtain ⟨gb,ob,y,rfl,hgb,hy,hd⟩:=(g.below hB).at i hlt;rw [hx] at hy;cases hy;have c0:=hc 0 _ rfl;have c1:=hc 1 _ rfl;have e0:=hd 0 _ rfl;have e1:=hd 1 _ rfl;simp only [Nat.add_zero] at c0 e0;have d1:decide ((i:Int)<(m:Int))=true:=decide_eq_true (by omega);clear hc hd hx;go_wp2_with fail;go_quiet (fail);have hB2:=below_drewN hB nq;generalize wr.drewN nq=wn at *;go_wp2_with fail;exact ⟨⟨i+1,by omega,by simp,hB2⟩,by simp [RowKit.intOf];omega⟩
  ·have hd:decide ((i:Int)<(m:Int))=false:=decide_eq_false (by omega);go_wp2_with fail;go_ret;exact ⟨rfl,hB⟩
structure RowIn (R:List (Int×Int)):Prop where
 ok:∀ c∈R,okR c.1
 cnt:∀ c∈R,0≤c.2∧c.2≤1048576
 len:R.length≤1048576
def ApB (w2:World) (q:Nat) (o:OpV) (R:List (Int×Int)) (X:World) (a1:Option Addr) (m cap1:Nat) (R':List (Int×Int)) (C:Int):Prop :=
 Calls Tryz.prog 11 #[.pointer (some ⟨q,0,none⟩),opVal o (.slice a1 m cap1)] X (fun e w'=>e=.returned (.int .i64 C)∧Holds w2 q R' w'∧Upd q X w')∧RowIn R' ∧
 ∀ (X5:World) (aR:Option Addr) (nR cR:Nat) (a:Option Addr) (cap:Nat),Rw cellV 2 X5 aR nR cR R→Sp.Rng X5 a m cap o.l→Calls Tryz.prog 12 #[.slice aR nR cR,opVal o (.slice a m cap)] X5 fun e w'=>∃ a' n' c',e=.returned (.tuple #[.slice a' n' c',.int .i64 C])∧Rw cellV 2 w' a' n' c' R'∧Below X5.heap.size X5 w'
theorem apply_both {w2:World} {q:Nat} {R:List (Int×Int)} {X:World} (h:Holds w2 q R X) (hq:w2.heap.size≤q) (hBar:Bar w2) (hR:RowIn R) {c n k p:Int} {s:ByteArray} {l:List (Int×Int)} {tc tn:Int} {on:Bool} {a1:Option Addr} {m cap1:Nat} (hl:Sp.Rng X a1 m cap1 l) (hs:s.size≤2097152):∃ R' C,ApB w2 q ⟨c,n,k,p,s,l,tc,tn,on⟩ R X a1 m cap1 R' C:=by
 have hs2:s.size≤9223372036854775807:=by omega
 have hlm:=hl.len;by_cases hC:opCheck ⟨c,n,k,p,s,l,tc,tn,on⟩ (R.length:Int)=0
 ·have hkd:=(opCheck_zero hC).2.2.1;have hkd':k=1∨k=2∨k=3∨k=4:=by
   simp only at hkd;omega
  rcases hkd' with rfl|rfl|rfl|rfl
  ·obtain ⟨pk,rs,e1,e2,e3,e4,e5,e6⟩:=ck_ins_of hC rfl;simp only at e1 e3;subst e1;refine ⟨putL R pk rs 0,0,apply_insAny h hq hBar hl hC e2 e3 e4 e5 e6,⟨putL_ok hR.ok e3.ok,?_,by rw [putL_len];omega⟩,fun X5 aR nR cR a cap hRw hrg=>?_⟩
   ·intro x hx;unfold putL at hx;rcases List.mem_append.1 hx with hx|hx
    ·rcases List.mem_append.1 hx with hx|hx
     ·exact hR.cnt x (List.mem_of_mem_take hx)
     ·obtain ⟨r,_,rfl⟩:=List.mem_map.1 hx;exact ⟨Int.le_refl _,by simp only;omega⟩
    ·exact hR.cnt x (List.mem_of_mem_drop hx)
   ·have hln:=hRw.len;refine (gApply_ins hRw hrg hs (by omega) e3 e4 e5 (by have:=hR.len;omega) (by rw [← hln];exact hC)).mono ?_;rintro e w' ⟨v,rfl,hO,hb⟩;obtain ⟨a',c',rfl⟩:=hO.shape;exact ⟨a',_,c',rfl,hO.rw_ layC,hb⟩
  ·obtain ⟨_,e2,_,e4⟩:=ck_rng_of hC (.inl rfl);simp only at e2 e4;have hm9:m≤1000000000:=by omega
   by_cases hin:∀ c∈bmp l (1) 0 R,0≤c.2∧c.2≤1048576
   ·refine ⟨bmp l 1 0 R,0,apply_aboveOk h hq hBar hl hs2 hC hin,⟨bmp_okR hR.ok,hin,by rw [bmp_len];exact hR.len⟩,fun X5 aR nR cR a cap hRw hrg=>?_⟩;have hln:=hRw.len;refine (gApply_2 hRw hrg hs e2 hR.cnt (by have:=hR.len;omega) hm9 (by rw [← hln];exact hC)).mono ?_;rintro e w' ⟨v,x,rfl,hG,hb⟩;rcases hG with ⟨rfl,hO,_⟩|⟨_,_,y,hy,hny⟩
    ·obtain ⟨a',c',rfl⟩:=hO.shape;exact ⟨a',_,c',rfl,hO.rw_ layC,hb⟩
    ·exact absurd (hin y hy) hny
   ·have hout:∃ c∈bmp l (1) 0 R,1048576<c.2:=by
     simp only [Classical.not_forall] at hin;obtain ⟨y,hy,hny⟩:=hin;obtain ⟨x,hx,e⟩:=bmp_mem hy;have:=hR.cnt x hx;refine ⟨y,hy,?_⟩;rcases e with rfl|rfl
     ·omega
     ·simp only at hny ⊢;omega
    refine ⟨R,31,(apply_above h hBar hl hs2 hC hout).mono (fun e w' ⟨e1,e2⟩=>⟨e1,h.still e2,Upd.ofBelow e2⟩),hR,fun X5 aR nR cR a cap hRw hrg=>?_⟩;have hln:=hRw.len;refine (gApply_2 hRw hrg hs e2 hR.cnt (by have:=hR.len;omega) hm9 (by rw [← hln];exact hC)).mono ?_;rintro e w' ⟨v,x,rfl,hG,hb⟩;rcases hG with ⟨_,_,hall⟩|⟨rfl,rfl,_⟩
    ·exact absurd hall hin
    ·exact ⟨_,_,_,rfl,hRw.below hb,hb⟩
  ·obtain ⟨_,e2,_,e4⟩:=ck_rng_of hC (.inr rfl);simp only at e2 e4;have hm9:m≤1000000000:=by omega
   by_cases hin:∀ c∈bmp l (-1) 0 R,0≤c.2∧c.2≤1048576
   ·refine ⟨bmp l (-1) 0 R,0,apply_belowOk h hq hBar hl hs2 hC hin,⟨bmp_okR hR.ok,hin,by rw [bmp_len];exact hR.len⟩,fun X5 aR nR cR a cap hRw hrg=>?_⟩;have hln:=hRw.len;refine (gApply_3 hRw hrg hs e2 hR.cnt (by have:=hR.len;omega) hm9 (by rw [← hln];exact hC)).mono ?_;rintro e w' ⟨v,x,rfl,hG,hb⟩;rcases hG with ⟨rfl,hO,_⟩|⟨_,_,y,hy,hny⟩
    ·obtain ⟨a',c',rfl⟩:=hO.shape;exact ⟨a',_,c',rfl,hO.rw_ layC,hb⟩
    ·exact absurd (hin y hy) hny
   ·have hout:∃ c∈bmp l (-1) 0 R,c.2<0:=by
     simp only [Classical.not_forall] at hin;obtain ⟨y,hy,hny⟩:=hin;obtain ⟨x,hx,e⟩:=bmp_mem hy;have:=hR.cnt x hx;refine ⟨y,hy,?_⟩;rcases e with rfl|rfl
     ·omega
     ·simp only at hny ⊢;omega
    refine ⟨R,30,(apply_below h hBar hl hs2 hC hout).mono (fun e w' ⟨e1,e2⟩=>⟨e1,h.still e2,Upd.ofBelow e2⟩),hR,fun X5 aR nR cR a cap hRw hrg=>?_⟩;have hln:=hRw.len;refine (gApply_3 hRw hrg hs e2 hR.cnt (by have:=hR.len;omega) hm9 (by rw [← hln];exact hC)).mono ?_;rintro e w' ⟨v,x,rfl,hG,hb⟩;rcases hG with ⟨_,_,hall⟩|⟨rfl,rfl,_⟩
    ·exact absurd hall hin
    ·exact ⟨_,_,_,rfl,hRw.below hb,hb⟩
  ·refine ⟨R,40,(apply_status h hl hs2 hBar hC).mono (fun e w' ⟨e1,e2⟩=>⟨e1,h.still e2,Upd.ofBelow e2⟩),hR,fun X5 aR nR cR a cap hRw hrg=>?_⟩;have hln:=hRw.len;refine (gApply_status hrg hs (by rw [← hln];exact hC)).mono ?_;rintro e w' ⟨rfl,hb⟩;exact ⟨_,_,_,rfl,hRw.below hb,hb⟩
 ·refine ⟨R,_,(apply_no h hl hs2 hBar rfl hC).mono (fun e w' ⟨e1,e2⟩=>⟨e1,h.still e2,Upd.ofBelow e2⟩),hR,fun X5 aR nR cR a cap hRw hrg=>?_⟩;have hln:=hRw.len;refine (gApply_no (o:=⟨c,n,k,p,s,l,tc,tn,on⟩) hrg hs (by rw [← hln]) hC).mono ?_;rintro e w' ⟨rfl,hb⟩;exact ⟨_,_,_,rfl,hRw.below hb,hb⟩
end Go.Proofs.YtijpfbcippijoaaGreatDoor
