import Derived.Test.YtijpfbcippijoaaGreatDoorGr124
import Derived.Test.YtijpfbcippijoaaGreatDoorGr105
namespace Go.Proofs.YtijpfbcippijoaaGreatDoor
open Go.RowKit Go.Lib Sp
set_option maxRecDepth 100000
set_option maxHeartbeats 2000000 in
theorem parse_wrong (l:List UInt8) (hl:l.length≤1048576) (hT:ownP (readP l)≠0) (w:World) (hw:Bar w) (hd:Deb w) (he:Errs w) :
  Calls Tryz.prog 44 #[.string (bs l)] w fun e w'=>e=.returned (.tuple #[opVal zeroOp (.slice none 0 0),.int .i64 44])∧Below w.heap.size w w':=by
 have hsz:=readP_size l
 have HL:Hid (∀ w':World,Below w.heap.size w w'→Calls Tryz.prog 82 #[.string (bs l)] w' fun e w''=>∃ a m cap,e=.returned (opVal (readP l) (.slice a m cap))∧Rng w'' a m cap (readP l).l∧(∀ g off,a=some ⟨g,off,none⟩→w'.heap.size≤g)∧Below w'.heap.size w' w''):=fun w' hb=>readLine_any l (by omega) w' (he.below hb) (hd.below hb)
 have HP:Hid (∀ (w':World) (a:Option Addr) (m cap:Nat),Below w.heap.size w w'→Rng w' a m cap (readP l).l→Calls Tryz.prog 20 #[opVal (readP l) (.slice a m cap)] w' fun e w''=>e=.returned (.tuple #[.string ⟨#[]⟩,.int .i64 (ownP (readP l))])∧Below w'.heap.size w' w''):=fun w' a m cap hb hR=>print_wrong hR hT (by omega) (hw.below hb)
 have t1:(ownP (readP l)==0)=false:=beq_eq_false_iff_ne.2 hT
 have t2:decide (ownP (readP l)=0)=false:=decide_eq_false hT
 have t3:¬ ownP (readP l)=0:=hT
 clear hT hw hd he hsz hl
 generalize ownP (readP l)=r at *
 generalize readP l=o at *
 generalize bs l=S at *
 obtain ⟨c,n,k,p,s,L,tc,tn,on⟩:=o
 simp only [opVal,zeroOp] at *
 have hw2:=(Below.refl w.heap.size w).alloc (Nat.le_refl _) (Obj.cells #[.int .i64 0,.int .i64 0,.int .i64 0,.int .i64 0,.string ⟨#[]⟩,.slice none 0 0,.int .i64 0,.int .i64 0,.bool false] 44)
 go_enter Tryz.func44,Tryz.ntmps44
 go_wp2_with fail
 refine (HL.out _ hw2).mono ?_
 rintro e w1 ⟨a,m,cap,rfl,hR,_,hb1⟩
 have hB1:=hw2.trans (hb1.mono hw2.size)
 have x1:=(hb1.block w.heap.size (by simp)).trans (alloc_last _ _ _ rfl)
 clear hw2 hb1
 go_wp2_with fail
 have hB2:=hB1.alloc hB1.size (Obj.cells #[.int .i64 c,.int .i64 n,.int .i64 k,.int .i64 p,.string s,.slice a m cap,.int .i64 tc,.int .i64 tn,.bool on] 44)
 have hR2:=hR.below ((Below.refl w1.heap.size w1).alloc (Nat.le_refl _) (Obj.cells #[.int .i64 c,.int .i64 n,.int .i64 k,.int .i64 p,.string s,.slice a m cap,.int .i64 tc,.int .i64 tn,.bool on] 44))
 have x2:=(Below.heap_alloc w1 (Obj.cells #[.int .i64 c,.int .i64 n,.int .i64 k,.int .i64 p,.string s,.slice a m cap,.int .i64 tc,.int .i64 tn,.bool on] 44) _ (Array.getElem?_eq_some_iff.1 x1).1).trans x1
 refine (HP.out _ _ _ _ hB2 hR2).mono ?_
 rintro e w3 ⟨rfl,hb3⟩
 have hB3:=hB2.trans (hb3.mono hB2.size)
 have x3:=(hb3.block _ (Array.getElem?_eq_some_iff.1 x2).1).trans x2
 clear hb3 hB2 hR2 x2 hB1 hR x1
 obtain ⟨⟨d0,d1,d2,d3,d4,d5,d6,d7,d8⟩,z10,z11,z12,z13,z14,z15,z16,z17,z18⟩:=cf9 x3
 have hx9:=set9 x3
 have hq8:=q9 hB3 (b:=w.heap.size) (Nat.le_refl _) (.int .i64 0) (.int .i64 0) (.int .i64 0) (.int .i64 0) (.string ⟨#[]⟩) (.slice none 0 0) (.int .i64 0) (.int .i64 0) (.bool false)
 obtain ⟨w9,hw9⟩:=exW hx9
 rw [hw9] at hx9 hq8
 obtain ⟨r0,r1,r2,r3,r4,r5,r6,r7,r8⟩:=cl9 hx9
 clear x3 hB3
 go_wp2_with fail
 try rw [hw9]
 refine bodyPost_ret (v:=.tuple #[.agg #[.int .i64 0,.int .i64 0,.int .i64 0,.int .i64 0,.string ⟨#[]⟩,.slice none 0 0,.int .i64 0,.int .i64 0,.bool false],.int .i64 44]) (by simp [results,Tryz.results44,go_sem,r0,r1,r2,r3,r4,r5,r6,r7,r8]) rfl ⟨rfl,hq8⟩
set_option maxHeartbeats 2000000 in
theorem parse_other (l:List UInt8) (hl:l.length≤1048576) (hT:ownP (readP l)=0) (hT2:printP (readP l)≠l) (w:World) (hw:Bar w) (hp:Pow w) (hd:Deb w) (he:Errs w) :
  Calls Tryz.prog 44 #[.string (bs l)] w fun e w'=>e=.returned (.tuple #[opVal zeroOp (.slice none 0 0),.int .i64 44])∧Below w.heap.size w w':=by
 have hsz:=readP_size l
 have HL:Hid (∀ w':World,Below w.heap.size w w'→Calls Tryz.prog 82 #[.string (bs l)] w' fun e w''=>∃ a m cap,e=.returned (opVal (readP l) (.slice a m cap))∧Rng w'' a m cap (readP l).l∧(∀ g off,a=some ⟨g,off,none⟩→w'.heap.size≤g)∧Below w'.heap.size w' w''):=fun w' hb=>readLine_any l (by omega) w' (he.below hb) (hd.below hb)
 have HP:Hid (∀ (w':World) (a:Option Addr) (m cap:Nat),Below w.heap.size w w'→Rng w' a m cap (readP l).l→Calls Tryz.prog 20 #[opVal (readP l) (.slice a m cap)] w' fun e w''=>e=.returned (.tuple #[.string (bs (printP (readP l))),.int .i64 0])∧Below w'.heap.size w' w''):=fun w' a m cap hb hR=>print_right hR hT (by omega) (hw.below hb) (hp.below hb) (hd.below hb)
 have t1:((bs (printP (readP l))).toList==(bs l).toList)=false:=by
  rw [show (bs (printP (readP l))).toList=printP (readP l) from list_of _,show (bs l).toList=l from list_of l]
  exact beq_eq_false_iff_ne.2 hT2
 clear hT hT2 hw hp hd he hsz hl
 generalize bs (printP (readP l))=P0 at *
 generalize readP l=o at *
 generalize bs l=S at *
 obtain ⟨c,n,k,p,s,L,tc,tn,on⟩:=o
 simp only [opVal,zeroOp] at *
 have hw2:=(Below.refl w.heap.size w).alloc (Nat.le_refl _) (Obj.cells #[.int .i64 0,.int .i64 0,.int .i64 0,.int .i64 0,.string ⟨#[]⟩,.slice none 0 0,.int .i64 0,.int .i64 0,.bool false] 44)
 go_enter Tryz.func44,Tryz.ntmps44
 go_wp2_with fail
 refine (HL.out _ hw2).mono ?_
 rintro e w1 ⟨a,m,cap,rfl,hR,_,hb1⟩
 have hB1:=hw2.trans (hb1.mono hw2.size)
 have x1:=(hb1.block w.heap.size (by simp)).trans (alloc_last _ _ _ rfl)
 clear hw2 hb1
 go_wp2_with fail
 have hB2:=hB1.alloc hB1.size (Obj.cells #[.int .i64 c,.int .i64 n,.int .i64 k,.int .i64 p,.string s,.slice a m cap,.int .i64 tc,.int .i64 tn,.bool on] 44)
 have hR2:=hR.below ((Below.refl w1.heap.size w1).alloc (Nat.le_refl _) (Obj.cells #[.int .i64 c,.int .i64 n,.int .i64 k,.int .i64 p,.string s,.slice a m cap,.int .i64 tc,.int .i64 tn,.bool on] 44))
 have x2:=(Below.heap_alloc w1 (Obj.cells #[.int .i64 c,.int .i64 n,.int .i64 k,.int .i64 p,.string s,.slice a m cap,.int .i64 tc,.int .i64 tn,.bool on] 44) _ (Array.getElem?_eq_some_iff.1 x1).1).trans x1
 refine (HP.out _ _ _ _ hB2 hR2).mono ?_
 rintro e w3 ⟨rfl,hb3⟩
 have hB3:=hB2.trans (hb3.mono hB2.size)
 have x3:=(hb3.block _ (Array.getElem?_eq_some_iff.1 x2).1).trans x2
 clear hb3 hB2 hR2 x2 hB1 hR x1
 obtain ⟨⟨d0,d1,d2,d3,d4,d5,d6,d7,d8⟩,z10,z11,z12,z13,z14,z15,z16,z17,z18⟩:=cf9 x3
 have hx9:=set9 x3
 have hq8:=q9 hB3 (b:=w.heap.size) (Nat.le_refl _) (.int .i64 0) (.int .i64 0) (.int .i64 0) (.int .i64 0) (.string ⟨#[]⟩) (.slice none 0 0) (.int .i64 0) (.int .i64 0) (.bool false)
 obtain ⟨w9,hw9⟩:=exW hx9
 rw [hw9] at hx9 hq8
 obtain ⟨r0,r1,r2,r3,r4,r5,r6,r7,r8⟩:=cl9 hx9
 clear x3 hB3
 go_wp2_with fail
 try rw [hw9]
 refine bodyPost_ret (v:=.tuple #[.agg #[.int .i64 0,.int .i64 0,.int .i64 0,.int .i64 0,.string ⟨#[]⟩,.slice none 0 0,.int .i64 0,.int .i64 0,.bool false],.int .i64 44]) (by simp [results,Tryz.results44,go_sem,r0,r1,r2,r3,r4,r5,r6,r7,r8]) rfl ⟨rfl,hq8⟩
theorem parse_no (l:List UInt8) (hl:l.length≤1048576) (hT:¬ Taken l) (w:World) (hw:Bar w) (hp:Pow w) (hd:Deb w) (he:Errs w) :
  Calls Tryz.prog 44 #[.string (bs l)] w fun e w'=>e=.returned (.tuple #[opVal zeroOp (.slice none 0 0),.int .i64 44])∧Below w.heap.size w w':=by
 by_cases h:ownP (readP l)=0
 ·exact parse_other l hl h (fun e=>hT ⟨h,e⟩) w hw hp hd he
 ·exact parse_wrong l hl h w hw hd he
end Go.Proofs.YtijpfbcippijoaaGreatDoor
