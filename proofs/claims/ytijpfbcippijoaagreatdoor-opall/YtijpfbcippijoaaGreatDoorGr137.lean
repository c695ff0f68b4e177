import Derived.Test.YtijpfbcippijoaaGreatDoorAl
import Derived.Test.YtijpfbcippijoaaGreatDoorGr141
import Derived.Test.YtijpfbcippijoaaGreatDoorGr145
import Derived.Test.YtijpfbcippijoaaGreatDoorGr111
set_option maxHeartbeats 4000000
set_option maxRecDepth 100000
namespace Go.Proofs.YtijpfbcippijoaaGreatDoor
open Go.RowKit Go.Lib
def strOf (rs:List Int):ByteArray:=⟨(encs rs).toArray⟩
theorem tx_eq {s:ByteArray} {rs:List Int} (h:s.data.toList=encs rs):s=strOf rs:=by
 cases s with|mk d=>simp only at h;unfold strOf;rw [← h]
def Holds (w2:World) (q:Nat) (R:List (Int×Int)) (W:World):Prop:=∃ t,RopeAt W q t∧t.Rp∧t.row=R∧Below w2.heap.size w2 W
theorem okl_row {t:Tr} (h:∀ c∈t.row,okR c.1):Okl t.lv:=fun p hp r hr=>h (r,p.2) (by
 rw [Tr.row_lv]
 unfold rowOf
 exact List.mem_flatMap.2 ⟨p,hp,List.mem_map.2 ⟨r,hr,rfl⟩⟩)
section
variable {w2 : World} {q : Nat} {R : List (Int × Int)} {W : World}
theorem Holds.below (h:Holds w2 q R W):Below w2.heap.size w2 W:=by obtain ⟨t,h1,h2,rfl,h3⟩:=h;exact h3
theorem Holds.still {W':World} (h:Holds w2 q R W) (hb:Below W.heap.size W W'):Holds w2 q R W':=by
 obtain ⟨t,h1,h2,e,h3⟩:=h;exact ⟨t,h1.below hb,h2,e,h3.trans (hb.mono h3.size)⟩
def putL (R:List (Int×Int)) (m:Nat) (rs:List Int) (hid:Int):List (Int×Int):=R.take m++(rs.map fun c=>(c,hid))++R.drop m
theorem putL_len (R:List (Int×Int)) (m:Nat) (rs:List Int) (hid:Int):(putL R m rs hid).length=R.length+rs.length:=by
 unfold putL;simp only [List.length_append,List.length_take,List.length_drop,List.length_map];omega
theorem putL_ok {R:List (Int×Int)} {m:Nat} {rs:List Int} {hid:Int} (h:∀ c∈R,okR c.1) (hr:∀ r∈rs,okR r):∀ c∈putL R m rs hid,okR c.1:=fun c hc=>by
 unfold putL at hc;rcases List.mem_append.1 hc with hc|hc
 ·rcases List.mem_append.1 hc with hc|hc
  ·exact h c (List.mem_of_mem_take hc)
  ·obtain ⟨r,hr2,rfl⟩:=List.mem_map.1 hc;exact hr r hr2
 ·exact h c (List.mem_of_mem_drop hc)
end
theorem box9 {W:World} {b:Nat} {T:TypeId} {v0 v1 v2 v3 v4 v5 v6 v7 v8:Value} (h:W.heap[b]?=some (.cells #[v0,v1,v2,v3,v4,v5,v6,v7,v8] T)) :
  W.cell? ⟨b,0,none⟩=some v0∧W.cell? ⟨b,1,none⟩=some v1∧W.cell? ⟨b,2,none⟩=some v2∧W.cell? ⟨b,3,none⟩=some v3∧W.cell? ⟨b,4,none⟩=some v4∧W.cell? ⟨b,5,none⟩=some v5∧W.cell? ⟨b,6,none⟩=some v6∧W.cell? ⟨b,7,none⟩=some v7∧W.cell? ⟨b,8,none⟩=some v8:=by
 simp only [cH h];exact ⟨rfl,rfl,rfl,rfl,rfl,rfl,rfl,rfl,rfl⟩
theorem apply_ins_to {w2:World} {q:Nat} {R:List (Int×Int)} {W:World} (h:Holds w2 q R W) {c n p:Int} {s:ByteArray} {l:List (Int×Int)} {tc tn:Int} {on:Bool} {a:Option Addr} {m cap:Nat} (hl:Sp.Rng W a m cap l) (hs:s.size≤9223372036854775807) (hBar:Bar w2) (hok:opCheck ⟨c,n,1,p,s,l,tc,tn,on⟩ (R.length:Int)=0) {Q:Int→World→Prop}
  (HX:∀ W1,Below W.heap.size W W1→Calls Tryz.prog 25 #[.pointer (some ⟨q,0,none⟩),.int .i64 p,.string s,.int .i64 0] W1 fun e W'=>∃ x,e=.returned (.int .i64 x)∧Q x W') :
  Calls Tryz.prog 11 #[.pointer (some ⟨q,0,none⟩),opVal ⟨c,n,1,p,s,l,tc,tn,on⟩ (.slice a m cap)] W fun e W'=>∃ x,e=.returned (.int .i64 x)∧Q x W':=by
 have HXX:Hid (∀ W1,Below W.heap.size W W1→Calls Tryz.prog 25 #[.pointer (some ⟨q,0,none⟩),.int .i64 p,.string s,.int .i64 0] W1 fun e W'=>∃ x,e=.returned (.int .i64 x)∧Q x W'):=HX;have HT:Hid (∀ W',Below W.heap.size W W'→Calls Tryz.prog 24 #[.pointer (some ⟨q,0,none⟩)] W' fun e w'=>e=.returned (.int .i64 (R.length:Int))∧w'=W'):=fun W' hb=>by obtain ⟨t,h1,h2,rfl,h3⟩:=h;exact ropeTotal_any (h1.below hb)
 have HC:Hid (∀ W',Below W.heap.size W W'→Calls Tryz.prog 18 #[.agg #[.int .i64 c,.int .i64 n,.int .i64 1,.int .i64 p,.string s,.slice a m cap,.int .i64 tc,.int .i64 tn,.bool on],.int .i64 (R.length:Int)] W' fun e w'=>e=.returned (.int .i64 0)∧Below W'.heap.size W' w'):=fun W' hb=>by have:=opCheck_any (o:=⟨c,n,1,p,s,l,tc,tn,on⟩) (total:=(R.length:Int)) (hl.below hb) hs (hBar.below (h.below.trans (hb.mono h.below.size)));rw [hok] at this;exact this
 simp only [opVal];clear hok hl hBar h HX;go_enter Tryz.func11,Tryz.ntmps11;go_wp2_with fail;generalize hWB:W.alloc (Obj.cells #[.int .i64 c,.int .i64 n,.int .i64 1,.int .i64 p,.string s,.slice a m cap,.int .i64 tc,.int .i64 tn,.bool on] 44)=WB;have hB:Below W.heap.size W WB:=hWB▸(bE W.heap.size W).alloc (lR _) _;have hbx:WB.heap[W.heap.size]?=some (.cells #[.int .i64 c,.int .i64 n,.int .i64 1,.int .i64 p,.string s,.slice a m cap,.int .i64 tc,.int .i64 tn,.bool on] 44):=hWB▸alloc_last _ _ _ rfl;clear hWB;refine wp_region_held_drew (S:=(fun X=>X.heap[W.heap.size]?=some (.cells #[.int .i64 c,.int .i64 n,.int .i64 1,.int .i64 p,.string s,.slice a m cap,.int .i64 tc,.int .i64 tn,.bool on] 44))) (by kernel_rfl) ?hS7 (fun hHeld=>?rest7)
 case hS7=>exact hbx
 refine takeD (i:=0) (d:=some 8) (v:=?vT8) rfl rfl (by kernel_rfl) (by kernel_rfl) (by kernel_rfl) (fun _ _ _ h=>h) (Or.inl ⟨by rfl,?hyT8⟩) (by assumption) ?rstT8
 case hyT8=>(intro w hSw;obtain ⟨d0,d1,d2,d3,d4,d5,d6,d7,d8⟩:=box9 hSw;(try dsimp only at hSw);go_simp;(try with_reducible rfl))
 try simp only [putS]
 refine tD 1 (some 9) ?_
 try simp only [putS]
 refine wpAnyH_ready (rs:=[2]) (by kernel_rfl) (by simp) ?_;refine AllReadyH.cons rfl (fun K hK=>?_) AllReadyH.nil;go_simp;refine (HT.out WB.drew hB.drew).mono ?_;rintro e w1 ⟨rfl,hw1⟩;subst hw1;clear hHeld;refine hK.out _ _ ?hS10 (fun hHeld=>?rest10)
 case hS10=>exact hbx
 clear hK K
 try simp only [putS]
 refine wpAnyH_ready (rs:=[3]) (by kernel_rfl) (by simp) ?_;refine AllReadyH.cons rfl (fun K hK=>?_) AllReadyH.nil;go_simp;refine (HC.out WB.drew hB.drew).mono ?_;rintro e w1 ⟨rfl,hb1⟩;have hB1:Below W.heap.size W w1:=hB.drew.trans (hb1.mono hB.drew.size);have hbx1:=(hb1.block _ (gA hbx)).trans hbx;clear hHeld;refine hK.out _ _ ?hS11 (fun hHeld=>?rest11)
 case hS11=>exact hbx1
 clear hK K
 try simp only [putS]
 refine tD 4 (some 5) ?_
 try simp only [putS]
 refine wpAnyH_done (by kernel_rfl) ?_ _;obtain ⟨d0,d1,d2,d3,d4,d5,d6,d7,d8⟩:=box9 hbx1;go_wp2_with fail;refine (HXX.out _ hB1).mono ?_;rintro e w2 ⟨x,rfl,hQ⟩;have HQ:Hid (Q x w2):=hQ;clear hQ;go_wp2_with fail;go_ret;exact ⟨x,rfl,HQ.out⟩
theorem apply_hide_to {w2:World} {q:Nat} {R:List (Int×Int)} {W:World} (h:Holds w2 q R W) {c n p:Int} {s:ByteArray} {l:List (Int×Int)} {tc tn:Int} {on:Bool} {a:Option Addr} {m cap:Nat} (hl:Sp.Rng W a m cap l) (hs:s.size≤9223372036854775807) (hBar:Bar w2) (hok:opCheck ⟨c,n,2,p,s,l,tc,tn,on⟩ (R.length:Int)=0) {Q:Int→World→Prop}
  (HX:∀ W1,Below W.heap.size W W1→Calls Tryz.prog 26 #[.pointer (some ⟨q,0,none⟩),.slice a m cap,.int .i64 1] W1 fun e W'=>∃ x,e=.returned (.int .i64 x)∧Q x W') :
  Calls Tryz.prog 11 #[.pointer (some ⟨q,0,none⟩),opVal ⟨c,n,2,p,s,l,tc,tn,on⟩ (.slice a m cap)] W fun e W'=>∃ x,e=.returned (.int .i64 x)∧Q x W':=by
 have HXX:Hid (∀ W1,Below W.heap.size W W1→Calls Tryz.prog 26 #[.pointer (some ⟨q,0,none⟩),.slice a m cap,.int .i64 1] W1 fun e W'=>∃ x,e=.returned (.int .i64 x)∧Q x W'):=HX;have HT:Hid (∀ W',Below W.heap.size W W'→Calls Tryz.prog 24 #[.pointer (some ⟨q,0,none⟩)] W' fun e w'=>e=.returned (.int .i64 (R.length:Int))∧w'=W'):=fun W' hb=>by obtain ⟨t,h1,h2,rfl,h3⟩:=h;exact ropeTotal_any (h1.below hb)
 have HC:Hid (∀ W',Below W.heap.size W W'→Calls Tryz.prog 18 #[.agg #[.int .i64 c,.int .i64 n,.int .i64 2,.int .i64 p,.string s,.slice a m cap,.int .i64 tc,.int .i64 tn,.bool on],.int .i64 (R.length:Int)] W' fun e w'=>e=.returned (.int .i64 0)∧Below W'.heap.size W' w'):=fun W' hb=>by have:=opCheck_any (o:=⟨c,n,2,p,s,l,tc,tn,on⟩) (total:=(R.length:Int)) (hl.below hb) hs (hBar.below (h.below.trans (hb.mono h.below.size)));rw [hok] at this;exact this
 simp only [opVal];clear hok hl hBar h HX;go_enter Tryz.func11,Tryz.ntmps11;go_wp2_with fail;generalize hWB:W.alloc (Obj.cells #[.int .i64 c,.int .i64 n,.int .i64 2,.int .i64 p,.string s,.slice a m cap,.int .i64 tc,.int .i64 tn,.bool on] 44)=WB;have hB:Below W.heap.size W WB:=hWB▸(bE W.heap.size W).alloc (lR _) _;have hbx:WB.heap[W.heap.size]?=some (.cells #[.int .i64 c,.int .i64 n,.int .i64 2,.int .i64 p,.string s,.slice a m cap,.int .i64 tc,.int .i64 tn,.bool on] 44):=hWB▸alloc_last _ _ _ rfl;clear hWB;refine wp_region_held_drew (S:=(fun X=>X.heap[W.heap.size]?=some (.cells #[.int .i64 c,.int .i64 n,.int .i64 2,.int .i64 p,.string s,.slice a m cap,.int .i64 tc,.int .i64 tn,.bool on] 44))) (by kernel_rfl) ?hS13 (fun hHeld=>?rest13)
 case hS13=>exact hbx
 refine takeD (i:=0) (d:=some 8) (v:=?vT14) rfl rfl (by kernel_rfl) (by kernel_rfl) (by kernel_rfl) (fun _ _ _ h=>h) (Or.inl ⟨by rfl,?hyT14⟩) (by assumption) ?rstT14
 case hyT14=>(intro w hSw;obtain ⟨d0,d1,d2,d3,d4,d5,d6,d7,d8⟩:=box9 hSw;(try dsimp only at hSw);go_simp;(try with_reducible rfl))
 try simp only [putS]
 refine tD 1 (some 9) ?_
 try simp only [putS]
 refine wpAnyH_ready (rs:=[2]) (by kernel_rfl) (by simp) ?_;refine AllReadyH.cons rfl (fun K hK=>?_) AllReadyH.nil;go_simp;refine (HT.out WB.drew hB.drew).mono ?_;rintro e w1 ⟨rfl,hw1⟩;subst hw1;clear hHeld;refine hK.out _ _ ?hS16 (fun hHeld=>?rest16)
 case hS16=>exact hbx
 clear hK K
 try simp only [putS]
 refine wpAnyH_ready (rs:=[3]) (by kernel_rfl) (by simp) ?_;refine AllReadyH.cons rfl (fun K hK=>?_) AllReadyH.nil;go_simp;refine (HC.out WB.drew hB.drew).mono ?_;rintro e w1 ⟨rfl,hb1⟩;have hB1:Below W.heap.size W w1:=hB.drew.trans (hb1.mono hB.drew.size);have hbx1:=(hb1.block _ (gA hbx)).trans hbx;clear hHeld;refine hK.out _ _ ?hS17 (fun hHeld=>?rest17)
 case hS17=>exact hbx1
 clear hK K
 try simp only [putS]
 refine tD 4 (some 5) ?_
 try simp only [putS]
 refine wpAnyH_done (by kernel_rfl) ?_ _;obtain ⟨d0,d1,d2,d3,d4,d5,d6,d7,d8⟩:=box9 hbx1;go_wp2_with fail;refine (HXX.out _ hB1).mono ?_;rintro e w2 ⟨x,rfl,hQ⟩;have HQ:Hid (Q x w2):=hQ;clear hQ;go_wp2_with fail;go_ret;exact ⟨x,rfl,HQ.out⟩
theorem apply_show_to {w2:World} {q:Nat} {R:List (Int×Int)} {W:World} (h:Holds w2 q R W) {c n p:Int} {s:ByteArray} {l:List (Int×Int)} {tc tn:Int} {on:Bool} {a:Option Addr} {m cap:Nat} (hl:Sp.Rng W a m cap l) (hs:s.size≤9223372036854775807) (hBar:Bar w2) (hok:opCheck ⟨c,n,3,p,s,l,tc,tn,on⟩ (R.length:Int)=0) {Q:Int→World→Prop}
  (HX:∀ W1,Below W.heap.size W W1→Calls Tryz.prog 26 #[.pointer (some ⟨q,0,none⟩),.slice a m cap,.int .i64 (-1)] W1 fun e W'=>∃ x,e=.returned (.int .i64 x)∧Q x W') :
  Calls Tryz.prog 11 #[.pointer (some ⟨q,0,none⟩),opVal ⟨c,n,3,p,s,l,tc,tn,on⟩ (.slice a m cap)] W fun e W'=>∃ x,e=.returned (.int .i64 x)∧Q x W':=by
 have HXX:Hid (∀ W1,Below W.heap.size W W1→Calls Tryz.prog 26 #[.pointer (some ⟨q,0,none⟩),.slice a m cap,.int .i64 (-1)] W1 fun e W'=>∃ x,e=.returned (.int .i64 x)∧Q x W'):=HX;have HT:Hid (∀ W',Below W.heap.size W W'→Calls Tryz.prog 24 #[.pointer (some ⟨q,0,none⟩)] W' fun e w'=>e=.returned (.int .i64 (R.length:Int))∧w'=W'):=fun W' hb=>by obtain ⟨t,h1,h2,rfl,h3⟩:=h;exact ropeTotal_any (h1.below hb)
 have HC:Hid (∀ W',Below W.heap.size W W'→Calls Tryz.prog 18 #[.agg #[.int .i64 c,.int .i64 n,.int .i64 3,.int .i64 p,.string s,.slice a m cap,.int .i64 tc,.int .i64 tn,.bool on],.int .i64 (R.length:Int)] W' fun e w'=>e=.returned (.int .i64 0)∧Below W'.heap.size W' w'):=fun W' hb=>by have:=opCheck_any (o:=⟨c,n,3,p,s,l,tc,tn,on⟩) (total:=(R.length:Int)) (hl.below hb) hs (hBar.below (h.below.trans (hb.mono h.below.size)));rw [hok] at this;exact this
 simp only [opVal];clear hok hl hBar h HX;go_enter Tryz.func11,Tryz.ntmps11;go_wp2_with fail;generalize hWB:W.alloc (Obj.cells #[.int .i64 c,.int .i64 n,.int .i64 3,.int .i64 p,.string s,.slice a m cap,.int .i64 tc,.int .i64 tn,.bool on] 44)=WB;have hB:Below W.heap.size W WB:=hWB▸(bE W.heap.size W).alloc (lR _) _;have hbx:WB.heap[W.heap.size]?=some (.cells #[.int .i64 c,.int .i64 n,.int .i64 3,.int .i64 p,.string s,.slice a m cap,.int .i64 tc,.int .i64 tn,.bool on] 44):=hWB▸alloc_last _ _ _ rfl;clear hWB;refine wp_region_held_drew (S:=(fun X=>X.heap[W.heap.size]?=some (.cells #[.int .i64 c,.int .i64 n,.int .i64 3,.int .i64 p,.string s,.slice a m cap,.int .i64 tc,.int .i64 tn,.bool on] 44))) (by kernel_rfl) ?hS19 (fun hHeld=>?rest19)
 case hS19=>exact hbx
 refine takeD (i:=0) (d:=some 8) (v:=?vT20) rfl rfl (by kernel_rfl) (by kernel_rfl) (by kernel_rfl) (fun _ _ _ h=>h) (Or.inl ⟨by rfl,?hyT20⟩) (by assumption) ?rstT20
 case hyT20=>(intro w hSw;obtain ⟨d0,d1,d2,d3,d4,d5,d6,d7,d8⟩:=box9 hSw;(try dsimp only at hSw);go_simp;(try with_reducible rfl))
 try simp only [putS]
 refine tD 1 (some 9) ?_
 try simp only [putS]
 refine wpAnyH_ready (rs:=[2]) (by kernel_rfl) (by simp) ?_;refine AllReadyH.cons rfl (fun K hK=>?_) AllReadyH.nil;go_simp;refine (HT.out WB.drew hB.drew).mono ?_;rintro e w1 ⟨rfl,hw1⟩;subst hw1;clear hHeld;refine hK.out _ _ ?hS22 (fun hHeld=>?rest22)
 case hS22=>exact hbx
 clear hK K
 try simp only [putS]
 refine wpAnyH_ready (rs:=[3]) (by kernel_rfl) (by simp) ?_;refine AllReadyH.cons rfl (fun K hK=>?_) AllReadyH.nil;go_simp;refine (HC.out WB.drew hB.drew).mono ?_;rintro e w1 ⟨rfl,hb1⟩;have hB1:Below W.heap.size W w1:=hB.drew.trans (hb1.mono hB.drew.size);have hbx1:=(hb1.block _ (gA hbx)).trans hbx;clear hHeld;refine hK.out _ _ ?hS23 (fun hHeld=>?rest23)
 case hS23=>exact hbx1
 clear hK K
 try simp only [putS]
 refine tD 4 (some 5) ?_
 try simp only [putS]
 refine wpAnyH_done (by kernel_rfl) ?_ _;obtain ⟨d0,d1,d2,d3,d4,d5,d6,d7,d8⟩:=box9 hbx1;go_wp2_with fail;refine (HXX.out _ hB1).mono ?_;rintro e w2 ⟨x,rfl,hQ⟩;have HQ:Hid (Q x w2):=hQ;clear hQ;go_wp2_with fail;go_ret;exact ⟨x,rfl,HQ.out⟩
end Go.Proofs.YtijpfbcippijoaaGreatDoor
