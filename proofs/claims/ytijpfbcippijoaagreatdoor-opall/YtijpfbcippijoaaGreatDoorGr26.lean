import Derived.Test.YtijpfbcippijoaaGreatDoorGr29
import Derived.Test.YtijpfbcippijoaaGreatDoorRefR
import Derived.Maps.AppendAt
import Derived.Laws.BytesArg
import Derived.Test.YtijpfbcippijoaaGreatDoorOpLR
namespace Go.Proofs.YtijpfbcippijoaaGreatDoor
open Go.RowKit Go.Lib Sp
set_option maxRecDepth 100000
set_option maxHeartbeats 2000000 in
theorem parse_wrong (l : List UInt8) (hl : l.length≤1048576) (hT : ownP (readP l) ≠ 0) (w : World) (hw : Bar w) (hd : Deb w) (he : Errs w) :
    Calls Tryz.prog 44 #[.string (bs l)] w fun e w'=>e = .returned (.tuple #[opVal zeroOp (.slice none 0 0),.int .i64 44])∧Below w.heap.size w w':=by
  have hsz:=readP_size l
  have HL : Hid (∀ w' : World,Below w.heap.size w w'→Calls Tryz.prog 82 #[.string (bs l)] w' fun e w''=>∃ a m cap,e = .returned (opVal (readP l) (.slice a m cap))∧Rng w'' a m cap (readP l).l∧(∀ g off,a = some ⟨g,off,none⟩→w'.heap.size≤g)∧Below w'.heap.size w' w''):=fun w' hb=>readLine_any l (by omega) w' (he.below hb) (hd.below hb)
  have HP : Hid (∀ (w' : World) (a : Option Addr) (m cap : Nat),Below w.heap.size w w'→Rng w' a m cap (readP l).l→Calls Tryz.prog 20 #[opVal (readP l) (.slice a m cap)] w' fun e w''=>e = .returned (.tuple #[.string ⟨#[]⟩,.int .i64 (ownP (readP l))])∧Below w'.heap.size w' w''):=fun w' a m cap hb hR=>print_wrong hR hT (by omega) (hw.below hb)
  have t1 : (ownP (readP l) == 0) = false:=beq_eq_false_iff_ne.2 hT
  have t2 : decide (ownP (readP l) = 0) = false:=decide_eq_false hT
  have t3 : ¬ ownP (readP l) = 0:=hT
  clear hT hw hd he hsz hl
  generalize ownP (readP l) = r at *
  generalize readP l = o at *
  generalize bs l = S at *
  obtain ⟨c,n,k,p,s,L,tc,tn,on⟩:=o
  simp only [opVal,zeroOp] at *
  have hw2:=(Below.refl w.heap.size w).alloc (Nat.le_refl _) (Obj.cells #[.int .i64 0,.int .i64 0,.int .i64 0,.int .i64 0,.string ⟨#[]⟩,.slice none 0 0,.int .i64 0,.int .i64 0,.bool false] 44)
  go_enter Tryz.func44,Tryz.ntmps44
  go_wp2_with fail
  refine (HL.out _ hw2).mono ?_
  rintro e w1 ⟨a,m,cap,rfl,hR,_,hb1⟩
  have hB1:=hw2.trans (hb1.mono hw2.size)
  have x1:=(hb1.block w.heap.size (by simp)).trans (alloc_last _ _ _ rfl)
  clear hw2 hb1
  go_wp2_with fail
  have hB2:=hB1.alloc hB1.size (Obj.cells #[.int .i64 c,.int .i64 n,.int .i64 k,.int .i64 p,.string s,.slice a m cap,.int .i64 tc,.int .i64 tn,.bool on] 44)
  have hR2:=hR.below ((Below.refl w1.heap.size w1).alloc (Nat.le_refl _) (Obj.cells #[.int .i64 c,.int .i64 n,.int .i64 k,.int .i64 p,.string s,.slice a m cap,.int .i64 tc,.int .i64 tn,.bool on] 44))
  have x2:=(Below.heap_alloc w1 (Obj.cells #[.int .i64 c,.int .i64 n,.int .i64 k,.int .i64 p,.string s,.slice a m cap,.int .i64 tc,.int .i64 tn,.bool on] 44) _ (Array.getElem?_eq_some_iff.1 x1).1).trans x1
  refine (HP.out _ _ _ _ hB2 hR2).mono ?_
  rintro e w3 ⟨rfl,hb3⟩
  have hB3:=hB2.trans (hb3.mono hB2.size)
  have x3:=(hb3.block _ (Array.getElem?_eq_some_iff.1 x2).1).trans x2
  clear hb3 hB2 hR2 x2 hB1 hR x1
  have d0 : w3.cell? ⟨w.heap.size,0,none⟩ = some (.int .i64 0):=by rw [Lib.cell_of_heap x3]; rfl
  have z10 : w3.frozen? ⟨w.heap.size,0,none⟩ = false:=Lib.frozen_of_heap x3 0
  have d1 : w3.cell? ⟨w.heap.size,1,none⟩ = some (.int .i64 0):=by rw [Lib.cell_of_heap x3]; rfl
  have z11 : w3.frozen? ⟨w.heap.size,1,none⟩ = false:=Lib.frozen_of_heap x3 1
  have d2 : w3.cell? ⟨w.heap.size,2,none⟩ = some (.int .i64 0):=by rw [Lib.cell_of_heap x3]; rfl
  have z12 : w3.frozen? ⟨w.heap.size,2,none⟩ = false:=Lib.frozen_of_heap x3 2
  have d3 : w3.cell? ⟨w.heap.size,3,none⟩ = some (.int .i64 0):=by rw [Lib.cell_of_heap x3]; rfl
  have z13 : w3.frozen? ⟨w.heap.size,3,none⟩ = false:=Lib.frozen_of_heap x3 3
  have d4 : w3.cell? ⟨w.heap.size,4,none⟩ = some (.string ⟨#[]⟩):=by rw [Lib.cell_of_heap x3]; rfl
  have z14 : w3.frozen? ⟨w.heap.size,4,none⟩ = false:=Lib.frozen_of_heap x3 4
  have d5 : w3.cell? ⟨w.heap.size,5,none⟩ = some (.slice none 0 0):=by rw [Lib.cell_of_heap x3]; rfl
  have z15 : w3.frozen? ⟨w.heap.size,5,none⟩ = false:=Lib.frozen_of_heap x3 5
  have d6 : w3.cell? ⟨w.heap.size,6,none⟩ = some (.int .i64 0):=by rw [Lib.cell_of_heap x3]; rfl
  have z16 : w3.frozen? ⟨w.heap.size,6,none⟩ = false:=Lib.frozen_of_heap x3 6
  have d7 : w3.cell? ⟨w.heap.size,7,none⟩ = some (.int .i64 0):=by rw [Lib.cell_of_heap x3]; rfl
  have z17 : w3.frozen? ⟨w.heap.size,7,none⟩ = false:=Lib.frozen_of_heap x3 7
  have d8 : w3.cell? ⟨w.heap.size,8,none⟩ = some (.bool false):=by rw [Lib.cell_of_heap x3]; rfl
  have z18 : w3.frozen? ⟨w.heap.size,8,none⟩ = false:=Lib.frozen_of_heap x3 8
  have hx9:=set9 x3
  have hq0:=hB3.setCell (p:=⟨w.heap.size,0,none⟩) (Nat.le_refl _) (.int .i64 0)
  have hq1:=hq0.setCell (p:=⟨w.heap.size,1,none⟩) (Nat.le_refl _) (.int .i64 0)
  have hq2:=hq1.setCell (p:=⟨w.heap.size,2,none⟩) (Nat.le_refl _) (.int .i64 0)
  have hq3:=hq2.setCell (p:=⟨w.heap.size,3,none⟩) (Nat.le_refl _) (.int .i64 0)
  have hq4:=hq3.setCell (p:=⟨w.heap.size,4,none⟩) (Nat.le_refl _) (.string ⟨#[]⟩)
  have hq5:=hq4.setCell (p:=⟨w.heap.size,5,none⟩) (Nat.le_refl _) (.slice none 0 0)
  have hq6:=hq5.setCell (p:=⟨w.heap.size,6,none⟩) (Nat.le_refl _) (.int .i64 0)
  have hq7:=hq6.setCell (p:=⟨w.heap.size,7,none⟩) (Nat.le_refl _) (.int .i64 0)
  have hq8:=hq7.setCell (p:=⟨w.heap.size,8,none⟩) (Nat.le_refl _) (.bool false)
  obtain ⟨w9,hw9⟩ : ∃ w9,(((((((((w3.setCell ⟨w.heap.size,0,none⟩ (.int .i64 0)).setCell ⟨w.heap.size,1,none⟩ (.int .i64 0)).setCell ⟨w.heap.size,2,none⟩ (.int .i64 0)).setCell ⟨w.heap.size,3,none⟩ (.int .i64 0)).setCell ⟨w.heap.size,4,none⟩ (.string ⟨#[]⟩)).setCell ⟨w.heap.size,5,none⟩ (.slice none 0 0)).setCell ⟨w.heap.size,6,none⟩ (.int .i64 0)).setCell ⟨w.heap.size,7,none⟩ (.int .i64 0)).setCell ⟨w.heap.size,8,none⟩ (.bool false)) = w9:=⟨_,rfl⟩
  rw [hw9] at hx9 hq8
  have r0 : w9.cell? ⟨w.heap.size,0,none⟩ = some (.int .i64 0):=by rw [Lib.cell_of_heap hx9]; rfl
  have r1 : w9.cell? ⟨w.heap.size,1,none⟩ = some (.int .i64 0):=by rw [Lib.cell_of_heap hx9]; rfl
  have r2 : w9.cell? ⟨w.heap.size,2,none⟩ = some (.int .i64 0):=by rw [Lib.cell_of_heap hx9]; rfl
  have r3 : w9.cell? ⟨w.heap.size,3,none⟩ = some (.int .i64 0):=by rw [Lib.cell_of_heap hx9]; rfl
  have r4 : w9.cell? ⟨w.heap.size,4,none⟩ = some (.string ⟨#[]⟩):=by rw [Lib.cell_of_heap hx9]; rfl
  have r5 : w9.cell? ⟨w.heap.size,5,none⟩ = some (.slice none 0 0):=by rw [Lib.cell_of_heap hx9]; rfl
  have r6 : w9.cell? ⟨w.heap.size,6,none⟩ = some (.int .i64 0):=by rw [Lib.cell_of_heap hx9]; rfl
  have r7 : w9.cell? ⟨w.heap.size,7,none⟩ = some (.int .i64 0):=by rw [Lib.cell_of_heap hx9]; rfl
  have r8 : w9.cell? ⟨w.heap.size,8,none⟩ = some (.bool false):=by rw [Lib.cell_of_heap hx9]; rfl
  clear hq7 hq6 hq5 hq4 hq3 hq2 hq1 hq0 x3 hB3
  go_wp2_with fail
  try rw [hw9]
  refine bodyPost_ret (v:=.tuple #[.agg #[.int .i64 0,.int .i64 0,.int .i64 0,.int .i64 0,.string ⟨#[]⟩,.slice none 0 0,.int .i64 0,.int .i64 0,.bool false],.int .i64 44]) (by simp [results,Tryz.results44,go_sem,r0,r1,r2,r3,r4,r5,r6,r7,r8]) rfl ⟨rfl,hq8⟩
set_option maxHeartbeats 2000000 in
theorem parse_other (l : List UInt8) (hl : l.length≤1048576) (hT : ownP (readP l) = 0) (hT2 : printP (readP l) ≠ l) (w : World) (hw : Bar w) (hp : Pow w) (hd : Deb w) (he : Errs w) :
    Calls Tryz.prog 44 #[.string (bs l)] w fun e w'=>e = .returned (.tuple #[opVal zeroOp (.slice none 0 0),.int .i64 44])∧Below w.heap.size w w':=by
  have hsz:=readP_size l
  have HL : Hid (∀ w' : World,Below w.heap.size w w'→Calls Tryz.prog 82 #[.string (bs l)] w' fun e w''=>∃ a m cap,e = .returned (opVal (readP l) (.slice a m cap))∧Rng w'' a m cap (readP l).l∧(∀ g off,a = some ⟨g,off,none⟩→w'.heap.size≤g)∧Below w'.heap.size w' w''):=fun w' hb=>readLine_any l (by omega) w' (he.below hb) (hd.below hb)
  have HP : Hid (∀ (w' : World) (a : Option Addr) (m cap : Nat),Below w.heap.size w w'→Rng w' a m cap (readP l).l→Calls Tryz.prog 20 #[opVal (readP l) (.slice a m cap)] w' fun e w''=>e = .returned (.tuple #[.string (bs (printP (readP l))),.int .i64 0])∧Below w'.heap.size w' w''):=fun w' a m cap hb hR=>print_right hR hT (by omega) (hw.below hb) (hp.below hb) (hd.below hb)
  have t1 : ((bs (printP (readP l))).toList == (bs l).toList) = false:=by
    rw [show (bs (printP (readP l))).toList = printP (readP l) from list_of _,show (bs l).toList = l from list_of l]
    exact beq_eq_false_iff_ne.2 hT2
  clear hT hT2 hw hp hd he hsz hl
  generalize bs (printP (readP l)) = P0 at *
  generalize readP l = o at *
  generalize bs l = S at *
  obtain ⟨c,n,k,p,s,L,tc,tn,on⟩:=o
  simp only [opVal,zeroOp] at *
  have hw2:=(Below.refl w.heap.size w).alloc (Nat.le_refl _) (Obj.cells #[.int .i64 0,.int .i64 0,.int .i64 0,.int .i64 0,.string ⟨#[]⟩,.slice none 0 0,.int .i64 0,.int .i64 0,.bool false] 44)
  go_enter Tryz.func44,Tryz.ntmps44
  go_wp2_with fail
  refine (HL.out _ hw2).mono ?_
  rintro e w1 ⟨a,m,cap,rfl,hR,_,hb1⟩
  have hB1:=hw2.trans (hb1.mono hw2.size)
  have x1:=(hb1.block w.heap.size (by simp)).trans (alloc_last _ _ _ rfl)
  clear hw2 hb1
  go_wp2_with fail
  have hB2:=hB1.alloc hB1.size (Obj.cells #[.int .i64 c,.int .i64 n,.int .i64 k,.int .i64 p,.string s,.slice a m cap,.int .i64 tc,.int .i64 tn,.bool on] 44)
  have hR2:=hR.below ((Below.refl w1.heap.size w1).alloc (Nat.le_refl _) (Obj.cells #[.int .i64 c,.int .i64 n,.int .i64 k,.int .i64 p,.string s,.slice a m cap,.int .i64 tc,.int .i64 tn,.bool on] 44))
  have x2:=(Below.heap_alloc w1 (Obj.cells #[.int .i64 c,.int .i64 n,.int .i64 k,.int .i64 p,.string s,.slice a m cap,.int .i64 tc,.int .i64 tn,.bool on] 44) _ (Array.getElem?_eq_some_iff.1 x1).1).trans x1
  refine (HP.out _ _ _ _ hB2 hR2).mono ?_
  rintro e w3 ⟨rfl,hb3⟩
  have hB3:=hB2.trans (hb3.mono hB2.size)
  have x3:=(hb3.block _ (Array.getElem?_eq_some_iff.1 x2).1).trans x2
  clear hb3 hB2 hR2 x2 hB1 hR x1
  have d0 : w3.cell? ⟨w.heap.size,0,none⟩ = some (.int .i64 0):=by rw [Lib.cell_of_heap x3]; rfl
  have z10 : w3.frozen? ⟨w.heap.size,0,none⟩ = false:=Lib.frozen_of_heap x3 0
  have d1 : w3.cell? ⟨w.heap.size,1,none⟩ = some (.int .i64 0):=by rw [Lib.cell_of_heap x3]; rfl
  have z11 : w3.frozen? ⟨w.heap.size,1,none⟩ = false:=Lib.frozen_of_heap x3 1
  have d2 : w3.cell? ⟨w.heap.size,2,none⟩ = some (.int .i64 0):=by rw [Lib.cell_of_heap x3]; rfl
  have z12 : w3.frozen? ⟨w.heap.size,2,none⟩ = false:=Lib.frozen_of_heap x3 2
  have d3 : w3.cell? ⟨w.heap.size,3,none⟩ = some (.int .i64 0):=by rw [Lib.cell_of_heap x3]; rfl
  have z13 : w3.frozen? ⟨w.heap.size,3,none⟩ = false:=Lib.frozen_of_heap x3 3
  have d4 : w3.cell? ⟨w.heap.size,4,none⟩ = some (.string ⟨#[]⟩):=by rw [Lib.cell_of_heap x3]; rfl
  have z14 : w3.frozen? ⟨w.heap.size,4,none⟩ = false:=Lib.frozen_of_heap x3 4
  have d5 : w3.cell? ⟨w.heap.size,5,none⟩ = some (.slice none 0 0):=by rw [Lib.cell_of_heap x3]; rfl
  have z15 : w3.frozen? ⟨w.heap.size,5,none⟩ = false:=Lib.frozen_of_heap x3 5
  have d6 : w3.cell? ⟨w.heap.size,6,none⟩ = some (.int .i64 0):=by rw [Lib.cell_of_heap x3]; rfl
  have z16 : w3.frozen? ⟨w.heap.size,6,none⟩ = false:=Lib.frozen_of_heap x3 6
  have d7 : w3.cell? ⟨w.heap.size,7,none⟩ = some (.int .i64 0):=by rw [Lib.cell_of_heap x3]; rfl
  have z17 : w3.frozen? ⟨w.heap.size,7,none⟩ = false:=Lib.frozen_of_heap x3 7
  have d8 : w3.cell? ⟨w.heap.size,8,none⟩ = some (.bool false):=by rw [Lib.cell_of_heap x3]; rfl
  have z18 : w3.frozen? ⟨w.heap.size,8,none⟩ = false:=Lib.frozen_of_heap x3 8
  have hx9:=set9 x3
  have hq0:=hB3.setCell (p:=⟨w.heap.size,0,none⟩) (Nat.le_refl _) (.int .i64 0)
  have hq1:=hq0.setCell (p:=⟨w.heap.size,1,none⟩) (Nat.le_refl _) (.int .i64 0)
  have hq2:=hq1.setCell (p:=⟨w.heap.size,2,none⟩) (Nat.le_refl _) (.int .i64 0)
  have hq3:=hq2.setCell (p:=⟨w.heap.size,3,none⟩) (Nat.le_refl _) (.int .i64 0)
  have hq4:=hq3.setCell (p:=⟨w.heap.size,4,none⟩) (Nat.le_refl _) (.string ⟨#[]⟩)
  have hq5:=hq4.setCell (p:=⟨w.heap.size,5,none⟩) (Nat.le_refl _) (.slice none 0 0)
  have hq6:=hq5.setCell (p:=⟨w.heap.size,6,none⟩) (Nat.le_refl _) (.int .i64 0)
  have hq7:=hq6.setCell (p:=⟨w.heap.size,7,none⟩) (Nat.le_refl _) (.int .i64 0)
  have hq8:=hq7.setCell (p:=⟨w.heap.size,8,none⟩) (Nat.le_refl _) (.bool false)
  obtain ⟨w9,hw9⟩ : ∃ w9,(((((((((w3.setCell ⟨w.heap.size,0,none⟩ (.int .i64 0)).setCell ⟨w.heap.size,1,none⟩ (.int .i64 0)).setCell ⟨w.heap.size,2,none⟩ (.int .i64 0)).setCell ⟨w.heap.size,3,none⟩ (.int .i64 0)).setCell ⟨w.heap.size,4,none⟩ (.string ⟨#[]⟩)).setCell ⟨w.heap.size,5,none⟩ (.slice none 0 0)).setCell ⟨w.heap.size,6,none⟩ (.int .i64 0)).setCell ⟨w.heap.size,7,none⟩ (.int .i64 0)).setCell ⟨w.heap.size,8,none⟩ (.bool false)) = w9:=⟨_,rfl⟩
  rw [hw9] at hx9 hq8
  have r0 : w9.cell? ⟨w.heap.size,0,none⟩ = some (.int .i64 0):=by rw [Lib.cell_of_heap hx9]; rfl
  have r1 : w9.cell? ⟨w.heap.size,1,none⟩ = some (.int .i64 0):=by rw [Lib.cell_of_heap hx9]; rfl
  have r2 : w9.cell? ⟨w.heap.size,2,none⟩ = some (.int .i64 0):=by rw [Lib.cell_of_heap hx9]; rfl
  have r3 : w9.cell? ⟨w.heap.size,3,none⟩ = some (.int .i64 0):=by rw [Lib.cell_of_heap hx9]; rfl
  have r4 : w9.cell? ⟨w.heap.size,4,none⟩ = some (.string ⟨#[]⟩):=by rw [Lib.cell_of_heap hx9]; rfl
  have r5 : w9.cell? ⟨w.heap.size,5,none⟩ = some (.slice none 0 0):=by rw [Lib.cell_of_heap hx9]; rfl
  have r6 : w9.cell? ⟨w.heap.size,6,none⟩ = some (.int .i64 0):=by rw [Lib.cell_of_heap hx9]; rfl
  have r7 : w9.cell? ⟨w.heap.size,7,none⟩ = some (.int .i64 0):=by rw [Lib.cell_of_heap hx9]; rfl
  have r8 : w9.cell? ⟨w.heap.size,8,none⟩ = some (.bool false):=by rw [Lib.cell_of_heap hx9]; rfl
  clear hq7 hq6 hq5 hq4 hq3 hq2 hq1 hq0 x3 hB3
  go_wp2_with fail
  try rw [hw9]
  refine bodyPost_ret (v:=.tuple #[.agg #[.int .i64 0,.int .i64 0,.int .i64 0,.int .i64 0,.string ⟨#[]⟩,.slice none 0 0,.int .i64 0,.int .i64 0,.bool false],.int .i64 44]) (by simp [results,Tryz.results44,go_sem,r0,r1,r2,r3,r4,r5,r6,r7,r8]) rfl ⟨rfl,hq8⟩
theorem parse_no (l : List UInt8) (hl : l.length≤1048576) (hT : ¬ Taken l) (w : World) (hw : Bar w) (hp : Pow w) (hd : Deb w) (he : Errs w) :
    Calls Tryz.prog 44 #[.string (bs l)] w fun e w'=>e = .returned (.tuple #[opVal zeroOp (.slice none 0 0),.int .i64 44])∧Below w.heap.size w w':=by
  by_cases h : ownP (readP l) = 0
  · exact parse_other l hl h (fun e=>hT ⟨h,e⟩) w hw hp hd he
  · exact parse_wrong l hl h w hw hd he
end Go.Proofs.YtijpfbcippijoaaGreatDoor

namespace Go.Proofs.YtijpfbcippijoaaGreatDoor
open Go.RowKit Go.Lib
set_option maxHeartbeats 1000000 in
set_option maxRecDepth 100000 in
theorem bytes_1 (r : Int) (h0 : 0≤r) (h1 : r < 128) (w : World) :
    Calls Tryz.prog 141 #[.int .i64 r] w fun e w'=>e = .returned (.slice (some ⟨w.heap.size,0,none⟩) 1 1)∧w' = w.alloc (.cells #[.int .u8 r] 5):=by
  go_enter Tryz.func141,Tryz.ntmps141
  go_wp2_with fail
  go_ret
  exact ⟨rfl,rfl⟩
set_option maxHeartbeats 1000000 in
set_option maxRecDepth 100000 in
theorem bytes_2 (r : Int) (h0 : 128≤r) (h1 : r < 2048) (w : World) :
    Calls Tryz.prog 141 #[.int .i64 r] w fun e w'=>e = .returned (.slice (some ⟨w.heap.size,0,none⟩) 2 2)∧w' = w.alloc (.cells #[.int .u8 (192 + r / 64),.int .u8 (128 + r % 64)] 5):=by
  go_enter Tryz.func141,Tryz.ntmps141
  go_wp2_with fail
  go_ret
  exact ⟨rfl,rfl⟩
set_option maxHeartbeats 1000000 in
set_option maxRecDepth 100000 in
theorem bytes_3 (r : Int) (h0 : 2048≤r) (h1 : r < 65536) (w : World) :
    Calls Tryz.prog 141 #[.int .i64 r] w fun e w'=>e = .returned (.slice (some ⟨w.heap.size,0,none⟩) 3 3)∧w' = w.alloc (.cells #[.int .u8 (224 + r / 4096),.int .u8 (128 + r / 64 % 64),.int .u8 (128 + r % 64)] 5):=by
  go_enter Tryz.func141,Tryz.ntmps141
  go_wp2_with fail
  go_ret
  exact ⟨rfl,rfl⟩
set_option maxHeartbeats 1000000 in
set_option maxRecDepth 100000 in
theorem bytes_4 (r : Int) (h0 : 65536≤r) (h1 : r≤1114111) (w : World) :
    Calls Tryz.prog 141 #[.int .i64 r] w fun e w'=>e = .returned (.slice (some ⟨w.heap.size,0,none⟩) 4 4)∧w' = w.alloc (.cells #[.int .u8 (240 + r / 262144),.int .u8 (128 + r / 4096 % 64),.int .u8 (128 + r / 64 % 64),.int .u8 (128 + r % 64)] 5):=by
  go_enter Tryz.func141,Tryz.ntmps141
  go_wp2_with fail
  go_ret
  exact ⟨rfl,rfl⟩
theorem toNat_u8 (n : Nat) (h : n < 256) : ((UInt8.ofNat n).toNat : Int) = n:=by
  rw [UInt8.toNat_ofNat']
  omega
theorem bytes_any (r : Int) (hv : Utf8.valid r = true) (w : World) :
    Calls Tryz.prog 141 #[.int .i64 r] w fun e w'=>∃ C : Array Value,e = .returned (.slice (some ⟨w.heap.size,0,none⟩) (encB r).length (encB r).length)∧w' = w.alloc (.cells C 5)∧C.toList = byteCells (encB r):=by
  obtain ⟨h0,h1,_⟩:=valid_le hv
  obtain ⟨c,rfl⟩:=Int.eq_ofNat_of_zero_le h0
  by_cases k1 : c < 128
  · refine (bytes_1 c (by omega) (by omega) w).mono ?_
    rintro e w' ⟨rfl,rfl⟩
    rw [encB1 c k1]
    exact ⟨_,rfl,rfl,by simp only [byteCells,List.map_cons,List.map_nil,toNat_u8 c (by omega)]⟩
  · by_cases k2 : c < 2048
    · refine (bytes_2 c (by omega) (by omega) w).mono ?_
      rintro e w' ⟨rfl,rfl⟩
      rw [encB2 c k2 (by omega)]
      refine ⟨_,rfl,rfl,?_⟩
      simp only [byteCells,List.map_cons,List.map_nil,toNat_u8 (0xC0 + c / 64) (by omega),toNat_u8 (0x80 + c % 64) (by omega)]
      rfl
    · by_cases k3 : c < 65536
      · refine (bytes_3 c (by omega) (by omega) w).mono ?_
        rintro e w' ⟨rfl,rfl⟩
        rw [encB3 c k3 (by omega) hv]
        refine ⟨_,rfl,rfl,?_⟩
        simp only [byteCells,List.map_cons,List.map_nil,toNat_u8 (0xE0 + c / 4096) (by omega),toNat_u8 (0x80 + c / 64 % 64) (by omega),toNat_u8 (0x80 + c % 64) (by omega)]
        rfl
      · refine (bytes_4 c (by omega) (by omega) w).mono ?_
        rintro e w' ⟨rfl,rfl⟩
        rw [encB4 c (by omega) hv]
        refine ⟨_,rfl,rfl,?_⟩
        simp only [byteCells,List.map_cons,List.map_nil,toNat_u8 (0xF0 + c / 262144) (by omega),toNat_u8 (0x80 + c / 4096 % 64) (by omega),toNat_u8 (0x80 + c / 64 % 64) (by omega),toNat_u8 (0x80 + c % 64) (by omega)]
        rfl
theorem encB_le8 (r : Int) : (encB r).length≤4:=by
  unfold encB
  rw [encode_if]
  unfold enc2
  simp only
  repeat' split
  all_goals simp
theorem info8 : (Tryz.prog.info? 5).map (fun i=>(i.zero,i.size,i.bytes)) = some (some (.int .u8 0),1,1):=by kernel_rfl
theorem conv_own {W : World} {B n : Nat} {v : Value} {l : List UInt8} (h : W.ownsRow B 5 1 v n (byteCells l)) : (convert 85 9 v).run Tryz.prog W = .ok (.string ⟨l.toArray⟩) W:=by
  have hlen : l.length = n:=by have:=h.1; rw [byteCells_length] at this; omega
  rcases h.2 with ⟨rfl,rfl⟩ | ⟨g,cap,cur,rfl,_,hh,hn,_,hsz,htk⟩
  · obtain rfl:=List.length_eq_zero_iff.1 hlen
    exact run_convert_bytes_nil (P:=Tryz.prog) W 85 5 Tryz.underlying85 Tryz.underlying5 0 0 9 Tryz.underlying9
  · have:=run_convert_bytes_arg (P:=Tryz.prog) W 85 5 Tryz.underlying85 Tryz.underlying5 g 0 n cap (l.map fun b=>(b.toNat : Int)) (by simpa using hlen) (fun j hj=>by
      have e1 : cur.toList[j]? = (byteCells l)[j]?:=by
        rw [← htk,List.getElem?_take,if_pos (by omega)]
      rw [Nat.zero_add]
      simp only [World.cell?,hh]
      simp only [Array.getElem?_toList] at e1
      rw [e1]
      simp [byteCells,List.getElem?_eq_getElem (show j < l.length by omega),List.getD_eq_getElem?_getD]) 9 Tryz.underlying9
    rw [this]
    have e : strOfNums (l.map fun b=>(b.toNat : Int)) = ⟨l.toArray⟩:=by
      unfold strOfNums
      simp [Function.comp_def]
    rw [e]
theorem cell_new8 (w : World) (x : Value) (t : TypeId) : ∀ j u,[x][j]? = some u→(w.alloc (.cells #[x] t)).cell? ((⟨w.heap.size,0,none⟩ : Addr).add j) = some u:=cell_newI w x t
theorem byteCells_append (a b : List UInt8) : byteCells (a ++ b) = byteCells a ++ byteCells b:=by simp [byteCells]
theorem take_snoc8 (l : List UInt8) (i : Nat) (hi : i < l.length) : byteCells (l.take i) ++ [Value.int .u8 (l.getD i 0).toNat] = byteCells (l.take (i + 1)):=by
  rw [List.take_succ_eq_append_getElem hi,byteCells_append]
  simp only [List.getD_eq_getElem?_getD,List.getElem?_eq_getElem hi]
  rfl
end Go.Proofs.YtijpfbcippijoaaGreatDoor

namespace Go.Proofs.YtijpfbcippijoaaGreatDoor
open Go.RowKit Go.Lib
theorem ndig_of2 {u j : Nat} (hu : u≤1114111) (hj : 1≤j) (h1 : u / 16 ^ j = 0) (h2 : j = 1 ∨ 1≤u / 16 ^ (j - 1)) (h6 : j≤6) : ndig u = j:=by
  unfold ndig
  have : j = 1 ∨ j = 2 ∨ j = 3 ∨ j = 4 ∨ j = 5 ∨ j = 6:=by omega
  rcases this with rfl | rfl | rfl | rfl | rfl | rfl <;> simp at h1 h2 <;> (repeat' split) <;> omega
theorem digTab (d : Nat) (h : d < 16) : (⟨#[48,49,50,51,52,53,54,55,56,57,97,98,99,100,101,102]⟩ : ByteArray).extract d (d + 1) = ⟨[hexd d].toArray⟩:=by
  have : d = 0 ∨ d = 1 ∨ d = 2 ∨ d = 3 ∨ d = 4 ∨ d = 5 ∨ d = 6 ∨ d = 7 ∨ d = 8 ∨ d = 9 ∨ d = 10 ∨ d = 11 ∨ d = 12 ∨ d = 13 ∨ d = 14 ∨ d = 15:=by omega
  rcases this with rfl | rfl | rfl | rfl | rfl | rfl | rfl | rfl | rfl | rfl | rfl | rfl | rfl | rfl | rfl | rfl <;> rfl
set_option maxHeartbeats 1000000 in
theorem digits_any (u least : Nat) (hu : u≤1114111) (hl : least = 1 ∨ (least = 2∧16≤u)) (w : World) :
    Calls Tryz.prog 103 #[.int .i64 u,.int .i64 least] w fun e w'=>e = .returned (.string ⟨(hexL u).toArray⟩)∧w' = w:=by
  have HLE : Hid (least = 1 ∨ (least = 2∧16≤u)):=hl
  have hl2 : 1≤least∧least≤2:=by omega
  clear hl
  go_enter Tryz.func103,Tryz.ntmps103
  go_wp2_with fail
  go_loopw [0,5,6] (fun n s _ w'=>∃ (j : Nat) (tx : ByteArray),j≤6∧n = .int .i64 (u / 16 ^ j : Nat)∧s = .string tx∧w' = w∧tx.size≤j∧j≤tx.size∧Hid (tx = ⟨(hexN u j).toArray⟩)∧Hid (j≤least ∨ 1≤u / 16 ^ (j - 1))) (fun n s _ _=>(RowKit.intOf n).toNat + (2 - (match s with | .string t=>t.size | _=>0)))
  case atStart=>exact ⟨0,⟨#[]⟩,by decide,by simp,rfl,rfl,by decide,by decide,rfl,.inl (Nat.zero_le _)⟩
  case round =>
    obtain ⟨j,tx,hj,rfl,rfl,rfl,hz1,hz2,HT,HM⟩:=hrel
    have hv : u / 16 ^ j≤1114111:=Nat.le_trans (Nat.div_le_self _ _) hu
    obtain ⟨v,hv0⟩ : ∃ v,u / 16 ^ j = v:=⟨_,rfl⟩
    rw [hv0] at hv
    have HV : Hid (u / 16 ^ j = v):=hv0
    rw [hv0]
    clear hv0
    have hx:=digTab (v % 16) (Nat.mod_lt _ (by decide))
    have HE : Hid ((⟨[hexd (v % 16)].toArray⟩ : ByteArray) ++ tx = ⟨(hexN u (j + 1)).toArray⟩):=by
      show _ = _
      rw [HT.out,catL]
      show _ = (⟨(hexd (u / 16 ^ j % 16) :: hexN u j).toArray⟩ : ByteArray)
      rw [HV.out]
      rfl
    have HD2 : Hid (u / 16 ^ (j + 1) = v / 16):=by
      show _ = _
      rw [Nat.pow_succ,← Nat.div_div_eq_div_mul,HV.out]
    have HJ : Hid (1≤v→j≤5):=by
      intro h
      rcases Nat.lt_or_ge j 6 with h5 | h5
      · omega
      · have hj5 : j = 6:=by omega
        have h6:=HV.out
        rw [hj5] at h6
        have h7 : u / 16 ^ 6≤1114111 / 16 ^ 6:=Nat.div_le_div_right hu
        have h8 : 1114111 / 16 ^ 6 = 0:=by decide
        omega
    by_cases h0 : 0 < v
    · go_wp2_with fail
      refine ⟨⟨j + 1,_,?_,?_,rfl,trivial,?_,?_,HE.out,.inr ?_⟩,?_⟩
      · have:=HJ.out h0; omega
      · rw [HD2.out]; rfl
      · rw [ByteArray.size_append]; show 1 + _≤_; omega
      · rw [ByteArray.size_append]; show _≤1 + _; omega
      · rw [Nat.add_sub_cancel,HV.out]; omega
      · have e : ((⟨#[hexd (v % 16)]⟩ : ByteArray) ++ tx).size = 1 + tx.size:=by rw [ByteArray.size_append]; rfl
        simp only [RowKit.intOf,e]
        omega
    · obtain rfl : v = 0:=by omega
      have hx0:=digTab 0 (by decide)
      have HE0 : Hid ((⟨#[hexd 0]⟩ : ByteArray) ++ tx = ⟨(hexN u (j + 1)).toArray⟩):=HE.out
      clear hx HE
      by_cases hjl : j < least
      · have d1 : decide ((tx.size : Int) < (least : Int)) = true:=decide_eq_true (by omega)
        go_wp2_with fail
        refine ⟨⟨j + 1,_,?_,?_,rfl,trivial,?_,?_,HE0.out,.inl (by omega)⟩,?_⟩
        · omega
        · rw [HD2.out]; rfl
        · rw [ByteArray.size_append]; show 1 + _≤_; omega
        · rw [ByteArray.size_append]; show _≤1 + _; omega
        · have e : ((⟨#[hexd 0]⟩ : ByteArray) ++ tx).size = 1 + tx.size:=by rw [ByteArray.size_append]; rfl
          simp only [RowKit.intOf,e]
          omega
      · have d1 : decide ((tx.size : Int) < (least : Int)) = false:=decide_eq_false (by omega)
        have HN : Hid (tx = ⟨(hexL u).toArray⟩):=by
          show _ = _
          have h2 : j = 1 ∨ 1≤u / 16 ^ (j - 1):=by
            rcases HM.out with h | h
            · rcases HLE.out with h3 | ⟨h3,h4⟩
              · left; omega
              · right
                have : j = 2:=by omega
                subst this
                simp
                omega
            · exact .inr h
          unfold hexL
          rw [ndig_of2 hu (by omega) HV.out h2 hj]
          exact HT.out
        go_wp2_with fail
        go_ret
        rw [← HN.out]
        exact ⟨rfl,rfl⟩
set_option maxHeartbeats 1000000 in
set_option maxRecDepth 100000 in
theorem written_any (r : Nat) (hr : r≤1114111) (w : World) :
    Calls Tryz.prog 104 #[.int .i64 r] w fun e w'=>e = .returned (.string ⟨(qR r).toArray⟩)∧Below w.heap.size w w':=by
  by_cases h1 : r = 34
  · subst h1
    go_enter Tryz.func104,Tryz.ntmps104
    go_wp2_with fail
    go_ret
    exact ⟨rfl,Below.refl _ _⟩
  by_cases h2 : r = 92
  · subst h2
    go_enter Tryz.func104,Tryz.ntmps104
    go_wp2_with fail
    go_ret
    exact ⟨rfl,Below.refl _ _⟩
  by_cases h3 : r = 10
  · subst h3
    go_enter Tryz.func104,Tryz.ntmps104
    go_wp2_with fail
    go_ret
    exact ⟨rfl,Below.refl _ _⟩
  by_cases h4 : r = 9
  · subst h4
    go_enter Tryz.func104,Tryz.ntmps104
    go_wp2_with fail
    go_ret
    exact ⟨rfl,Below.refl _ _⟩
  have t1 : ((r : Int) == 34) = false:=beq_eq_false_iff_ne.2 (by omega)
  have t2 : ((r : Int) == 92) = false:=beq_eq_false_iff_ne.2 (by omega)
  have t3 : ((r : Int) == 10) = false:=beq_eq_false_iff_ne.2 (by omega)
  have t4 : ((r : Int) == 9) = false:=beq_eq_false_iff_ne.2 (by omega)
  by_cases h5 : 32≤r∧r≤126
  · have hq : qR r = [UInt8.ofNat r]:=by
      unfold qR
      rw [if_neg h1,if_neg h2,if_neg h3,if_neg h4,if_pos h5]
    rw [hq]
    obtain ⟨h6,h7⟩:=h5
    have hcv : ∀ T,(convert 85 9 (.slice (some ⟨w.heap.size,0,none⟩) 1 1)).run Tryz.prog (w.alloc (.cells #[.int .u8 (r : Int)] T)) = _:=fun T=>conv_arr (l:=[UInt8.ofNat r]) (alloc_new w _) (by
      have e : (UInt8.ofNat r).toNat = r:=ofNat_toNat r (by omega)
      simp [Lib.byteCells,e]) rfl
    go_enter Tryz.func104,Tryz.ntmps104
    go_wp2_with fail
    go_ret
    exact ⟨rfl,(Below.refl _ _).alloc (Nat.le_refl _) _⟩
  · have hq : qR r = [92,117,123] ++ hexL r ++ [125]:=by
      unfold qR
      rw [if_neg h1,if_neg h2,if_neg h3,if_neg h4,if_neg h5]
    have hl:=hexL_len r
    rw [← sizeL (hexL r)] at hl
    have hC : (⟨#[92,117,123]⟩ : ByteArray) ++ ⟨(hexL r).toArray⟩ ++ ⟨#[125]⟩ = ⟨(qR r).toArray⟩:=by
      rw [hq,← catL,← catL]
    obtain ⟨tx,htx⟩ : ∃ tx,(⟨(hexL r).toArray⟩ : ByteArray) = tx:=⟨_,rfl⟩
    rw [htx] at hl hC
    have HT : Hid ((⟨(hexL r).toArray⟩ : ByteArray) = tx):=htx
    have HC : Hid ((⟨#[92,117,123]⟩ : ByteArray) ++ tx ++ ⟨#[125]⟩ = ⟨(qR r).toArray⟩):=hC
    clear htx hC hq
    have h6 : r < 32 ∨ 126 < r:=by omega
    rcases h6 with h6 | h6
    · go_enter Tryz.func104,Tryz.ntmps104
      go_wp2_with fail
      refine (digits_any r 1 hr (.inl rfl) _).mono ?_
      rintro e w1 ⟨rfl,rfl⟩
      rw [HT.out]
      go_wp2_with fail
      go_ret
      rw [← HC.out]
      exact ⟨rfl,Below.refl _ _⟩
    · go_enter Tryz.func104,Tryz.ntmps104
      go_wp2_with fail
      refine (digits_any r 1 hr (.inl rfl) _).mono ?_
      rintro e w1 ⟨rfl,rfl⟩
      rw [HT.out]
      go_wp2_with fail
      go_ret
      rw [← HC.out]
      exact ⟨rfl,Below.refl _ _⟩
theorem own_keep {w w' : World} {B e size n : Nat} {v : Value} {xs : List Value} (h : w.ownsRow B e size v n xs) (hb : Below w.heap.size w w') : w'.ownsRow B e size v n xs:=by
  refine ⟨h.1,?_⟩
  rcases h.2 with h0 | ⟨g,cap,cur,hv,hB,hh,rest⟩
  · exact .inl h0
  · exact .inr ⟨g,cap,cur,hv,hB,(hb.block g (Array.getElem?_eq_some_iff.1 hh).1).trans hh,rest⟩
theorem byteL (l : List UInt8) (x : Nat) (hx : x < l.length) (h : x < (⟨l.toArray⟩ : ByteArray).size) : ((⟨l.toArray⟩ : ByteArray)[x]'h).toNat = (l.getD x 0).toNat:=by
  have h2 : x < l.toArray.size:=h
  have e : (⟨l.toArray⟩ : ByteArray)[x]'h = l.toArray[x]'h2:=rfl
  rw [e,List.getD_eq_getElem?_getD,List.getElem?_eq_getElem hx]
  simp
theorem own_one (w : World) (T : TypeId) (v : Value) : (w.alloc (.cells #[v] T)).ownsRow w.heap.size T 1 (.slice (some ⟨w.heap.size,0,none⟩) 1 1) 1 [v] :=
  ⟨rfl,.inr ⟨w.heap.size,1,#[v],rfl,Nat.le_refl _,alloc_new w _,Nat.le_refl _,by decide,rfl,rfl⟩⟩
end Go.Proofs.YtijpfbcippijoaaGreatDoor
