import Derived.Test.YtijpfbcippijoaaGreatDoorGr124
import Derived.Test.YtijpfbcippijoaaGreatDoorGr133
namespace Go.Proofs.YtijpfbcippijoaaGreatDoor
open Go.RowKit Go.Lib Sp
set_option maxRecDepth 100000
theorem set9k {W:World} {b:Nat} {T:TypeId} {u0 u1 u2 u3 u4 u5 u6 u7 u8:Value} (h:W.heap[b]?=some (.cells #[u0,u1,u2,u3,u4,u5,u6,u7,u8] T)) (v0 v1 v2 v3 v4 v5 v6 v7 v8:Value) :
  (((((((((W.setCell ⟨b,0,none⟩ v0).setCell ⟨b,1,none⟩ v1).setCell ⟨b,2,none⟩ v2).setCell ⟨b,3,none⟩ v3).setCell ⟨b,4,none⟩ v4).setCell ⟨b,5,none⟩ v5).setCell ⟨b,6,none⟩ v6).setCell ⟨b,7,none⟩ v7).setCell ⟨b,8,none⟩ v8).heap[b]?=some (.cells #[v0,v1,v2,v3,v4,v5,v6,v7,v8] T):=by
 have h0:=(heap_setCell_same _ b 0 _ _ v0 h).trans (by simp;rfl)
 have h1:=(heap_setCell_same _ b 1 _ _ v1 h0).trans (by simp;rfl)
 have h2:=(heap_setCell_same _ b 2 _ _ v2 h1).trans (by simp;rfl)
 have h3:=(heap_setCell_same _ b 3 _ _ v3 h2).trans (by simp;rfl)
 have h4:=(heap_setCell_same _ b 4 _ _ v4 h3).trans (by simp;rfl)
 have h5:=(heap_setCell_same _ b 5 _ _ v5 h4).trans (by simp;rfl)
 have h6:=(heap_setCell_same _ b 6 _ _ v6 h5).trans (by simp;rfl)
 have h7:=(heap_setCell_same _ b 7 _ _ v7 h6).trans (by simp;rfl)
 have h8:=(heap_setCell_same _ b 8 _ _ v8 h7).trans (by simp;rfl)
 exact h8
set_option maxHeartbeats 4000000 in
theorem gGuess_no (l:List UInt8) (hl:l.length≤2097152) (w:World)
  (h1:(wordG 32 l ((wordG 32 l 0).2+1)).1≠[105,110,115]) (h2:(wordG 32 l ((wordG 32 l 0).2+1)).1≠[104,105,100,101]) (h3:(wordG 32 l ((wordG 32 l 0).2+1)).1≠[115,104,111,119]) (h4:(wordG 32 l ((wordG 32 l 0).2+1)).1≠[111,110]) (h5:(wordG 32 l ((wordG 32 l 0).2+1)).1≠[111,102,102]) :
  Calls Tryz.prog 83 #[.string (bs l)] w fun e w'=>e=.returned (opVal ⟨(idG (wordG 32 l 0).1).1,(idG (wordG 32 l 0).1).2,0,0,⟨#[]⟩,[],0,0,false⟩ (.slice none 0 0))∧Below w.heap.size w w':=by
 have hA:=gWord_G 32 l (by omega) 0 (by omega)
 have hle1:=wordG_le 32 l 0
 obtain ⟨W1,hW1⟩:∃ p,wordG 32 l 0=p:=⟨_,rfl⟩
 obtain ⟨a1,i1⟩:=W1
 rw [hW1] at hA hle1 h1 h2 h3 h4 h5 ⊢
 simp only at hA hle1 h1 h2 h3 h4 h5 ⊢
 have hB:=gWord_G 32 l (by omega) (i1+1) (by omega)
 have hle2:=wordG_le 32 l (i1+1)
 obtain ⟨W2,hW2⟩:∃ p,wordG 32 l (i1+1)=p:=⟨_,rfl⟩
 obtain ⟨a2,i2⟩:=W2
 rw [hW2] at hB hle2 h1 h2 h3 h4 h5
 simp only at hB hle2 h1 h2 h3 h4 h5
 simp only [opVal]
 have HA:Hid (∀ w:World,Calls Tryz.prog 110 #[.string (bs l),.int .i64 0,.int .u8 32] w fun e w'=>e=.returned (.tuple #[.string (bs a1),.int .i64 (i1:Int)])∧w'=w):=hA
 have HB:Hid (∀ w:World,Calls Tryz.prog 110 #[.string (bs l),.int .i64 ((i1:Int)+1),.int .u8 32] w fun e w'=>e=.returned (.tuple #[.string (bs a2),.int .i64 (i2:Int)])∧w'=w):=hB
 have HP:Hid (∀ w:World,Calls Tryz.prog 111 #[.string (bs a1),.int .u8 46] w fun e w'=>e=.returned (.tuple #[.int .i64 (pairG 46 a1).1,.int .i64 (pairG 46 a1).2])∧w'=w):=fun w=>gPair_G 46 a1 (by omega) w
 have hsz:(bs l).size=l.length:=bs_size l
 have k1:IntKind.i64.wrap ((i1:Int)+1)=(i1:Int)+1:=IntWalk.i64_in _ (by omega)
 have k2:IntKind.i64.wrap ((i2:Int)+1)=(i2:Int)+1:=IntWalk.i64_in _ (by omega)
 have hl2:(bs a2).toList=a2:=list_of a2
 have t1:((bs a2).toList==[105,110,115])=false:=by rw [hl2];exact beq_eq_false_iff_ne.2 h1
 have t2:((bs a2).toList==[104,105,100,101])=false:=by rw [hl2];exact beq_eq_false_iff_ne.2 h2
 have t3:((bs a2).toList==[115,104,111,119])=false:=by rw [hl2];exact beq_eq_false_iff_ne.2 h3
 have t4:((bs a2).toList==[111,110])=false:=by rw [hl2];exact beq_eq_false_iff_ne.2 h4
 have t5:((bs a2).toList==[111,102,102])=false:=by rw [hl2];exact beq_eq_false_iff_ne.2 h5
 have hl1:(bs a1).toList=a1:=list_of a1
 have HID:Hid (idG a1=if a1=[45] then (0,0) else pairG 46 a1):=rfl
 obtain ⟨V,hV⟩:∃ V,(w.alloc (Obj.cells #[.int .i64 0,.int .i64 0,.int .i64 0,.int .i64 0,.string ⟨#[]⟩,.slice none 0 0,.int .i64 0,.int .i64 0,.bool false] 44)).alloc (Obj.cells #[.int .i64 0,.int .i64 0,.int .i64 0,.int .i64 0,.string ⟨#[]⟩,.slice none 0 0,.int .i64 0,.int .i64 0,.bool false] 44)=V:=⟨_,rfl⟩
 have hX:Below w.heap.size w V:=by rw [← hV];exact ((Below.refl w.heap.size w).alloc (Nat.le_refl _) _).alloc (by simp) _
 have hx0:V.heap[w.heap.size]?=some (Obj.cells #[.int .i64 0,.int .i64 0,.int .i64 0,.int .i64 0,.string ⟨#[]⟩,.slice none 0 0,.int .i64 0,.int .i64 0,.bool false] 44):=by rw [← hV];exact (Below.heap_alloc _ _ _ (by simp)).trans (alloc_last _ _ _ rfl)
 have hx1:V.heap[w.heap.size+1]?=some (Obj.cells #[.int .i64 0,.int .i64 0,.int .i64 0,.int .i64 0,.string ⟨#[]⟩,.slice none 0 0,.int .i64 0,.int .i64 0,.bool false] 44):=by rw [← hV];exact alloc_last _ _ _ (by simp)
 clear hA hB hW1 hW2 h1 h2 h3 h4 h5 hl2 hle1 hle2
 by_cases hd:a1=[45]
 ·have t0:((bs a1).toList==[45])=true:=by rw [hl1,hd];rfl
  rw [show idG a1=(0,0) from by unfold idG;rw [if_pos hd]]
  dsimp only
  clear hd hl1 HID HP
  generalize bs a1=A1 at *
  generalize bs a2=A2 at *
  obtain ⟨⟨od0,od1,od2,od3,od4,od5,od6,od7,od8⟩,oz0,oz1,oz2,oz3,oz4,oz5,oz6,oz7,oz8⟩:=cf9 hx1
  obtain ⟨⟨pd0,pd1,pd2,pd3,pd4,pd5,pd6,pd7,pd8⟩,pz0,pz1,pz2,pz3,pz4,pz5,pz6,pz7,pz8⟩:=cf9 hx0
  have hq8:=q9 hX (b:=w.heap.size) (Nat.le_refl _) (.int .i64 0) (.int .i64 0) (.int .i64 0) (.int .i64 0) (.string ⟨#[]⟩) (.slice none 0 0) (.int .i64 0) (.int .i64 0) (.bool false)
  have hx9:=set9k hx0 (.int .i64 0) (.int .i64 0) (.int .i64 0) (.int .i64 0) (.string ⟨#[]⟩) (.slice none 0 0) (.int .i64 0) (.int .i64 0) (.bool false)
  obtain ⟨w9,hw9⟩:=exW hx9
  rw [hw9] at hx9 hq8
  obtain ⟨r0,r1,r2,r3,r4,r5,r6,r7,r8⟩:=cl9 hx9
  go_enter Tryz.func83,Tryz.ntmps83
  go_wp2_with fail
  (try simp only [hV])
  refine (HA.out _).mono ?_
  rintro e w3 ⟨rfl,hw⟩
  obtain rfl:=hw.symm
  clear hw
  go_wp2_with fail
  refine (HB.out _).mono ?_
  rintro e w3 ⟨rfl,hw⟩
  obtain rfl:=hw.symm
  clear hw
  go_wp2_with fail
  all_goals (try rw [hw9])
  all_goals refine bodyPost_ret (v:=.agg #[.int .i64 0,.int .i64 0,.int .i64 0,.int .i64 0,.string ⟨#[]⟩,.slice none 0 0,.int .i64 0,.int .i64 0,.bool false]) (by simp [results,Tryz.results83,go_sem,r0,r1,r2,r3,r4,r5,r6,r7,r8]) rfl ⟨rfl,hq8⟩
 ·have t0:((bs a1).toList==[45])=false:=by rw [hl1];exact beq_eq_false_iff_ne.2 hd
  rw [show idG a1=pairG 46 a1 from by unfold idG;rw [if_neg hd]]
  clear hd hl1 HID
  generalize (pairG 46 a1).1=c at *
  generalize (pairG 46 a1).2=n at *
  generalize bs a1=A1 at *
  generalize bs a2=A2 at *
  obtain ⟨⟨od0,od1,od2,od3,od4,od5,od6,od7,od8⟩,oz0,oz1,oz2,oz3,oz4,oz5,oz6,oz7,oz8⟩:=cf9 hx1
  obtain ⟨⟨pd0,pd1,pd2,pd3,pd4,pd5,pd6,pd7,pd8⟩,pz0,pz1,pz2,pz3,pz4,pz5,pz6,pz7,pz8⟩:=cf9 hx0
  have sB0:=hX.setCell (p:=⟨w.heap.size+1,0,none⟩) (by simp) (.int .i64 c)
  have sB1:=sB0.setCell (p:=⟨w.heap.size+1,1,none⟩) (by simp) (.int .i64 n)
  have sx0:=(Below.heap_setCell (V.setCell ⟨w.heap.size+1,0,none⟩ (.int .i64 c)) ⟨w.heap.size+1,1,none⟩ (.int .i64 n) w.heap.size (by simp)).trans ((Below.heap_setCell V ⟨w.heap.size+1,0,none⟩ (.int .i64 c) w.heap.size (by simp)).trans hx0)
  have sy0:=(heap_setCell_same _ (w.heap.size+1) 0 _ _ (.int .i64 c) hx1).trans (by simp;rfl)
  have sy1:=(heap_setCell_same _ (w.heap.size+1) 1 _ _ (.int .i64 n) sy0).trans (by simp;rfl)
  have hq8:=q9 sB1 (b:=w.heap.size) (Nat.le_refl _) (.int .i64 c) (.int .i64 n) (.int .i64 0) (.int .i64 0) (.string ⟨#[]⟩) (.slice none 0 0) (.int .i64 0) (.int .i64 0) (.bool false)
  have hx9:=set9k sx0 (.int .i64 c) (.int .i64 n) (.int .i64 0) (.int .i64 0) (.string ⟨#[]⟩) (.slice none 0 0) (.int .i64 0) (.int .i64 0) (.bool false)
  obtain ⟨w9,hw9⟩:=exW hx9
  rw [hw9] at hx9 hq8
  obtain ⟨r0,r1,r2,r3,r4,r5,r6,r7,r8⟩:=cl9 hx9
  obtain ⟨V1,hV1⟩:∃ V1,((V.setCell ⟨w.heap.size+1,0,none⟩ (.int .i64 c)).setCell ⟨w.heap.size+1,1,none⟩ (.int .i64 n))=V1:=⟨_,rfl⟩
  rw [hV1] at sx0 sy1 hw9
  obtain ⟨⟨qd0,qd1,qd2,qd3,qd4,qd5,qd6,qd7,qd8⟩,qz0,qz1,qz2,qz3,qz4,qz5,qz6,qz7,qz8⟩:=cf9 sy1
  obtain ⟨⟨sd0,sd1,sd2,sd3,sd4,sd5,sd6,sd7,sd8⟩,sz0,sz1,sz2,sz3,sz4,sz5,sz6,sz7,sz8⟩:=cf9 sx0
  go_enter Tryz.func83,Tryz.ntmps83
  go_wp2_with fail
  (try simp only [hV])
  refine (HA.out _).mono ?_
  rintro e w3 ⟨rfl,hw⟩
  obtain rfl:=hw.symm
  clear hw
  go_wp2_with fail
  refine (HB.out _).mono ?_
  rintro e w3 ⟨rfl,hw⟩
  obtain rfl:=hw.symm
  clear hw
  go_wp2_with fail
  all_goals
   refine (HP.out _).mono ?_
   rintro e w3 ⟨rfl,hw⟩
   obtain rfl:=hw.symm
   clear hw
   go_wp2_with fail
   (try simp only [hV1])
   (try go_wp2_with fail)
  all_goals (try rw [hw9])
  all_goals refine bodyPost_ret (v:=.agg #[.int .i64 c,.int .i64 n,.int .i64 0,.int .i64 0,.string ⟨#[]⟩,.slice none 0 0,.int .i64 0,.int .i64 0,.bool false]) (by simp [results,Tryz.results83,go_sem,r0,r1,r2,r3,r4,r5,r6,r7,r8]) rfl ⟨rfl,hq8⟩
end Go.Proofs.YtijpfbcippijoaaGreatDoor
