import Derived.Test.YtijpfbcippijoaaGreatDoorQbC
import Derived.Test.YtijpfbcippijoaaGreatDoorGr38
import Derived.Test.YtijpfbcippijoaaGreatDoorEscU
namespace Go.Proofs.YtijpfbcippijoaaGreatDoor
open Go.RowKit Go.Lib Sp
set_option maxRecDepth 100000
theorem bx9 {W : World} {b : Nat} {T : TypeId} {v0 v1 v2 v3 v4 v5 v6 v7 v8 : Value} (h : W.heap[b]? = some (.cells #[v0,v1,v2,v3,v4,v5,v6,v7,v8] T)) :
    W.cell? ⟨b,0,none⟩ = some v0∧W.cell? ⟨b,1,none⟩ = some v1∧W.cell? ⟨b,2,none⟩ = some v2∧W.cell? ⟨b,3,none⟩ = some v3∧W.cell? ⟨b,4,none⟩ = some v4∧W.cell? ⟨b,5,none⟩ = some v5∧W.cell? ⟨b,6,none⟩ = some v6∧W.cell? ⟨b,7,none⟩ = some v7∧W.cell? ⟨b,8,none⟩ = some v8:=by
  simp only [Lib.cell_of_heap h]
  exact ⟨rfl,rfl,rfl,rfl,rfl,rfl,rfl,rfl,rfl⟩
set_option maxHeartbeats 4000000 in
theorem gRanges_any {l : List (Int × Int)} {w : World} {a : Option Addr} {m cap : Nat} (h : Rng w a m cap l) (hm : m * 16≤140737488351232) :
    Calls Tryz.prog 74 #[.slice a m cap] w fun e w'=>∃ v,e = .returned v∧OwnF rngV 2 76 w' w.heap.size v l∧Below w.heap.size w w':=by
  have hl:=rw_of_rng h
  have HLL : Hid (l.length = m):=hl.len
  clear h
  go_enter Tryz.func74,Tryz.ntmps74
  go_wp2_with fail
  go_loopw [3,4] (fun v vi W=>∃ i : Nat,vi = .int .i64 (i : Int)∧i≤m∧OwnF rngV 2 76 W w.heap.size v (l.take i)∧Below w.heap.size w W) (fun _ vi _=>m - (RowKit.intOf vi).toNat)
  case atStart=>exact ⟨0,rfl,Nat.zero_le _,by rw [List.take_zero]; exact ownF_nil _ _,Below.refl _ _⟩
  case round =>
    obtain ⟨i,rfl,him,ho,hB⟩:=hrel
    have hli : (l.take i).length = i:=by rw [List.length_take]; have:=HLL.out; omega
    by_cases hi : i < m
    · obtain ⟨g,off,x,rfl,hg,hx,hc⟩:=hl.at i hi
      have ht : l.take i ++ [x] = l.take (i + 1):=by
        obtain ⟨hj,rfl⟩:=List.getElem?_eq_some_iff.1 hx
        rw [List.take_succ_eq_append_getElem hj]
      have HT : Hid (l.take i ++ [x] = l.take (i + 1)):=ht
      clear ht
      obtain ⟨xlo,xhi⟩:=x
      have k0 : wr.cell? ⟨g,off + i * 2,none⟩ = some (.int .i64 xlo):=(hB.cell (p:=⟨g,off + i * 2 + 0,none⟩) hg).trans (hc 0 _ rfl)
      have k1 : wr.cell? ⟨g,off + i * 2 + 1,none⟩ = some (.int .i64 xhi):=(hB.cell (p:=⟨g,off + i * 2 + 1,none⟩) hg).trans (hc 1 _ rfl)
      have hBs:=hB.size
      obtain ⟨av,cv,rfl⟩:=ho.shape
      obtain ⟨g5,cap5,w6,hr,ho6,hb6,_,_⟩:=appendF_one kindRo layRo ho hBs (xlo,xhi) #[.int .i64 xlo,.int .i64 xhi] rfl 76 (by rw [hli]; omega) (by rw [hli]; omega) 42
      rw [HT.out] at ho6
      rw [hli] at hr ho6
      rw [hli]
      clear hc hx ho
      go_wp2_with (at_builtin; refine wpList_append_hr rfl _ _ 42 rfl _ _ rfl rfl hr ?_)
      go_roundw
      case rel=>exact ⟨i + 1,by go_num,by omega,ho6,hB.trans hb6⟩
      case measure=>simp [RowKit.intOf]; omega
    · obtain rfl : i = m:=by omega
      rw [show l.take i = l from List.take_of_length_le (by have:=HLL.out; omega)] at ho
      go_wp2_with fail
      go_ret
      exact ⟨_,rfl,ho,hB⟩
def coversV (o : OpV) : List (Int × Int):=if ownP o = 0 then coveredP o else []
set_option maxHeartbeats 2000000 in
theorem opCovers_any {o : OpV} {w : World} {a : Option Addr} {m cap : Nat} (h : Rng w a m cap o.l) (hm : m≤1000000000) (hs : o.s.size≤9223372036854775807) (hw : Bar w) :
    Calls Tryz.prog 36 #[opVal o (.slice a m cap)] w fun e w'=>∃ v,e = .returned v∧OwnF rngV 2 76 w' w.heap.size v (coversV o)∧Below w.heap.size w w':=by
  obtain ⟨C,hC⟩ : ∃ C,ownP o = C:=⟨_,rfl⟩
  have HO : Hid (∀ w' : World,Below w.heap.size w w'→Calls Tryz.prog 52 #[opVal o (.slice a m cap)] w' fun e w''=>e = .returned (.int .i64 C)∧Below w'.heap.size w' w''):=fun w' hb=>by rw [← hC]; exact ownError_any (h.below hb) hs (hw.below hb)
  have HV : Hid (C = 0→∀ w' : World,Below w.heap.size w w'→Calls Tryz.prog 72 #[opVal o (.slice a m cap)] w' fun e w''=>∃ v,e = .returned v∧OwnF rngV 2 76 w'' (w'.heap.size + 1) v (coveredP o)∧Below w'.heap.size w' w''):=fun h0 w' hb=>covered_any (h.below hb) hm hs (hw.below hb) (right_of (hC.trans h0))
  have HL : Hid (coversV o = if C = 0 then coveredP o else []):=by show coversV o = _; unfold coversV; rw [hC]
  clear h hs hw hC hm
  obtain ⟨c,n,k,p,s,l,tc,tn,on⟩:=o
  simp only [opVal] at *
  obtain ⟨W1,hW1⟩ : ∃ W1,w.alloc (Obj.cells #[.int .i64 c,.int .i64 n,.int .i64 k,.int .i64 p,.string s,.slice a m cap,.int .i64 tc,.int .i64 tn,.bool on] 44) = W1:=⟨_,rfl⟩
  have hX : Below w.heap.size w W1:=hW1 ▸ (Below.refl w.heap.size w).alloc (Nat.le_refl _) _
  have hx1 : W1.heap[w.heap.size]? = some (Obj.cells #[.int .i64 c,.int .i64 n,.int .i64 k,.int .i64 p,.string s,.slice a m cap,.int .i64 tc,.int .i64 tn,.bool on] 44):=hW1 ▸ alloc_last _ _ _ rfl
  obtain ⟨y0,y1,y2,y3,y4,y5,y6,y7,y8⟩:=bx9 hx1
  go_enter Tryz.func36,Tryz.ntmps36
  go_wp2_with fail
  refine (HO.out _ hX).mono ?_
  rintro e w1 ⟨rfl,hb1⟩
  have hB1:=hX.trans (hb1.mono hX.size)
  have hx2:=(hb1.block _ (Array.getElem?_eq_some_iff.1 hx1).1).trans hx1
  clear y0 y1 y2 y3 y4 y5 y6 y7 y8 hx1 hX hW1
  obtain ⟨y0,y1,y2,y3,y4,y5,y6,y7,y8⟩:=bx9 hx2
  by_cases h0 : C = 0
  · subst h0
    have T:=HV.out rfl w1 hB1
    have hl:=HL.out
    rw [if_pos rfl] at hl
    have HL2 : Hid (coversV ⟨c,n,k,p,s,l,tc,tn,on⟩ = coveredP ⟨c,n,k,p,s,l,tc,tn,on⟩):=hl
    clear hl HL HV HO hb1 hx2
    go_wp2_with fail
    refine T.mono ?_
    rintro e w2 ⟨v,rfl,ho,hb2⟩
    clear T
    go_wp2_with fail
    go_ret
    exact ⟨_,rfl,by rw [HL2.out]; exact ho.mono (by have:=hB1.size; omega),hB1.trans (hb2.mono hB1.size)⟩
  · have t1 : (C == 0) = false:=beq_eq_false_iff_ne.2 h0
    have hl:=HL.out
    rw [if_neg h0] at hl
    have HL2 : Hid (coversV ⟨c,n,k,p,s,l,tc,tn,on⟩ = []):=hl
    clear hl HL HV HO hb1 hx2 h0
    go_wp2_with fail
    go_ret
    exact ⟨_,rfl,by rw [HL2.out]; exact ownF_nil _ _,hB1⟩
set_option maxHeartbeats 2000000 in
theorem gCovers_any {o : OpV} {w : World} {a : Option Addr} {m cap : Nat} (h : Rng w a m cap o.l) (hm : m≤1000000000) (hs : o.s.size≤2097152) :
    Calls Tryz.prog 37 #[opVal o (.slice a m cap)] w fun e w'=>∃ v,e = .returned v∧OwnF rngV 2 76 w' w.heap.size v (coversV o)∧Below w.heap.size w w':=by
  obtain ⟨C,hC⟩ : ∃ C,ownP o = C:=⟨_,rfl⟩
  have HO : Hid (∀ w' : World,Below w.heap.size w w'→Calls Tryz.prog 73 #[opVal o (.slice a m cap)] w' fun e w''=>e = .returned (.int .i64 C)∧Below w'.heap.size w' w''):=fun w' hb=>by rw [← hC]; exact gOwn_any (h.below hb) hs
  have HW : Hid (∀ w' : World,Calls Tryz.prog 35 #[opVal o (.slice a m cap)] w' fun e w''=>e = .returned (.int .i64 (widthP o))∧Below w'.heap.size w' w''):=fun w'=>gWidth_any hs w'
  have HG : Hid (∀ w' : World,Below w.heap.size w w'→Calls Tryz.prog 74 #[.slice a m cap] w' fun e w''=>∃ v,e = .returned v∧OwnF rngV 2 76 w'' w'.heap.size v o.l∧Below w'.heap.size w' w''):=fun w' hb=>gRanges_any (h.below hb) (by omega)
  have HL : Hid (coversV o = if C = 0 then coveredP o else []):=by show coversV o = _; unfold coversV; rw [hC]
  have HI : Hid (C = 0→o.k = 1→0≤o.p∧o.p≤1048576∧0≤widthP o∧widthP o≤1048576):=fun h0 hk=>by
    have hR:=right_of (hC.trans h0)
    obtain ⟨h1,h2,h3⟩:=hR.ins hk
    have h4:=insP_code _ _ h3
    have e : widthP o = (check o.s).1:=by unfold widthP; rw [if_pos hk]
    have h5:=h4.2.2.2.2.1
    have h6:=check_nonneg o.s
    rw [e]
    refine ⟨h1,h2,?_,?_⟩
    · exact h6
    · omega
  clear h hs hC hm
  obtain ⟨c,n,k,p,s,l,tc,tn,on⟩:=o
  simp only [opVal] at *
  obtain ⟨W1,hW1⟩ : ∃ W1,w.alloc (Obj.cells #[.int .i64 c,.int .i64 n,.int .i64 k,.int .i64 p,.string s,.slice a m cap,.int .i64 tc,.int .i64 tn,.bool on] 44) = W1:=⟨_,rfl⟩
  have hX : Below w.heap.size w W1:=hW1 ▸ (Below.refl w.heap.size w).alloc (Nat.le_refl _) _
  have hx1 : W1.heap[w.heap.size]? = some (Obj.cells #[.int .i64 c,.int .i64 n,.int .i64 k,.int .i64 p,.string s,.slice a m cap,.int .i64 tc,.int .i64 tn,.bool on] 44):=hW1 ▸ alloc_last _ _ _ rfl
  obtain ⟨y0,y1,y2,y3,y4,y5,y6,y7,y8⟩:=bx9 hx1
  go_enter Tryz.func37,Tryz.ntmps37
  go_wp2_with fail
  refine (HO.out _ hX).mono ?_
  rintro e w1 ⟨rfl,hb1⟩
  have hB1:=hX.trans (hb1.mono hX.size)
  have hx2:=(hb1.block _ (Array.getElem?_eq_some_iff.1 hx1).1).trans hx1
  clear y0 y1 y2 y3 y4 y5 y6 y7 y8 hx1 hX hW1
  obtain ⟨y0,y1,y2,y3,y4,y5,y6,y7,y8⟩:=bx9 hx2
  by_cases h0 : C = 0
  · subst h0
    have hl:=HL.out
    rw [if_pos rfl] at hl
    by_cases hk : k = 1
    · subst hk
      have hI:=HI.out rfl rfl
      obtain ⟨i1,i2,i3,i4⟩:=hI
      have T:=HW.out w1
      have hl2 : coversV ⟨c,n,1,p,s,l,tc,tn,on⟩ = [(p,p + widthP ⟨c,n,1,p,s,l,tc,tn,on⟩)]:=by rw [hl]; unfold coveredP; rw [if_pos rfl]
      obtain ⟨wd,hwd⟩ : ∃ wd,widthP ⟨c,n,1,p,s,l,tc,tn,on⟩ = wd:=⟨_,rfl⟩
      rw [hwd] at T i3 i4 hl2
      have ew : IntKind.i64.wrap (p + wd) = p + wd:=IntWalk.i64_in _ (by omega)
      have HL2 : Hid (coversV ⟨c,n,1,p,s,l,tc,tn,on⟩ = [(p,p + wd)]):=hl2
      clear hl hl2 HL HG HO HW HI hb1 hwd
      go_wp2_with fail
      refine T.mono ?_
      rintro e w2 ⟨rfl,hb2⟩
      have hx3:=(hb2.block _ (Array.getElem?_eq_some_iff.1 hx2).1).trans hx2
      clear T y0 y1 y2 y3 y4 y5 y6 y7 y8 hx2
      obtain ⟨y0,y1,y2,y3,y4,y5,y6,y7,y8⟩:=bx9 hx3
      have hB2:=hB1.trans (hb2.mono hB1.size)
      obtain ⟨W3,hW3⟩ : ∃ W3,w2.alloc (Obj.cells #[.int .i64 p,.int .i64 (p + wd)] 76) = W3:=⟨_,rfl⟩
      have hb3 : Below w2.heap.size w2 W3:=hW3 ▸ (Below.refl w2.heap.size w2).alloc (Nat.le_refl _) _
      have hx4 : W3.heap[w2.heap.size]? = some (Obj.cells #[.int .i64 p,.int .i64 (p + wd)] 76):=hW3 ▸ alloc_last _ _ _ rfl
      have HOW : Hid (OwnF rngV 2 76 W3 w.heap.size (.slice (some ⟨w2.heap.size,0,none⟩) 1 1) [(p,p + wd)]):=own_lit hx4 (by have:=hB2.size; omega)
      have HBB : Hid (Below w.heap.size w W3):=hB2.trans (hb3.mono hB2.size)
      clear hb2 hx3 hb3 hx4
      go_wp2_with fail
      go_ret
      exact ⟨_,rfl,by rw [HL2.out]; exact HOW.out,HBB.out⟩
    · have t1 : (k == 1) = false:=beq_eq_false_iff_ne.2 hk
      have T:=HG.out w1 hB1
      have hl2 : coversV ⟨c,n,k,p,s,l,tc,tn,on⟩ = l:=by rw [hl]; unfold coveredP; rw [if_neg hk]
      have HL2 : Hid (coversV ⟨c,n,k,p,s,l,tc,tn,on⟩ = l):=hl2
      clear hl hl2 HL HG HO HW HI hb1 hx2 hk
      go_wp2_with fail
      refine T.mono ?_
      rintro e w2 ⟨v,rfl,ho,hb2⟩
      clear T
      go_wp2_with fail
      go_ret
      exact ⟨_,rfl,by rw [HL2.out]; exact ho.mono (by have:=hB1.size; omega),hB1.trans (hb2.mono hB1.size)⟩
  · have t1 : (C == 0) = false:=beq_eq_false_iff_ne.2 h0
    have hl:=HL.out
    rw [if_neg h0] at hl
    have HL2 : Hid (coversV ⟨c,n,k,p,s,l,tc,tn,on⟩ = []):=hl
    clear hl HL HG HO HW HI hb1 hx2 h0
    go_wp2_with fail
    go_ret
    exact ⟨_,rfl,by rw [HL2.out]; exact ownF_nil _ _,hB1⟩
end Go.Proofs.YtijpfbcippijoaaGreatDoor

namespace Go.Proofs.YtijpfbcippijoaaGreatDoor
open Go.RowKit Go.Lib Sp
set_option maxRecDepth 100000
set_option maxHeartbeats 400000 in
theorem strClone_any (s : ByteArray) (hs : s.size≤281474976710656) (w : World) : Calls Tryz.prog 76 #[.string s] w fun e w'=>e = .returned (.string s)∧Below w.heap.size w w':=by
  have HC : Hid (∀ w : World,Calls Tryz.prog 102 #[.string s] w fun e w'=>e = .returned (.string s)∧Below w.heap.size w w'):=fun w=>Tryz.clone_any s w hs
  go_enter Tryz.func76,Tryz.ntmps76
  go_wp2_with fail
  refine (HC.out _).mono ?_
  rintro e w1 ⟨rfl,hb1⟩
  go_wp2_with fail
  go_ret
  exact ⟨rfl,hb1⟩
set_option maxHeartbeats 2000000 in
theorem opClone_any {o : OpV} {w : World} {a : Option Addr} {m cap : Nat} (h : Rng w a m cap o.l) (hm : m≤1000000000) (hs : o.s.size≤281474976710656) :
    Calls Tryz.prog 40 #[opVal o (.slice a m cap)] w fun e w'=>∃ a' cap',e = .returned (opVal o (.slice a' m cap'))∧OwnF rngV 2 76 w' (w.heap.size + 2) (.slice a' m cap') o.l∧Below w.heap.size w w':=by
  have hlen:=h.len
  have HS : Hid (∀ w' : World,Calls Tryz.prog 76 #[.string o.s] w' fun e w''=>e = .returned (.string o.s)∧Below w'.heap.size w' w''):=fun w'=>strClone_any o.s hs w'
  have HR : Hid (∀ w' : World,Below w.heap.size w w'→Calls Tryz.prog 77 #[.slice a m cap] w' fun e w''=>∃ v,e = .returned v∧OwnF rngV 2 76 w'' w'.heap.size v o.l∧Below w'.heap.size w' w''):=fun w' hb=>copiedR_any (h.below hb) hm
  clear h hm hs
  obtain ⟨c,n,k,p,s,l,tc,tn,on⟩:=o
  simp only at hlen HS HR
  simp only [opVal]
  have hX : Below w.heap.size w ((w.alloc (Obj.cells #[.int .i64 c,.int .i64 n,.int .i64 k,.int .i64 p,.string s,.slice a m cap,.int .i64 tc,.int .i64 tn,.bool on] 44)).alloc (Obj.cells #[.int .i64 0,.int .i64 0,.int .i64 0,.int .i64 0,.string ⟨#[]⟩,.slice none 0 0,.int .i64 0,.int .i64 0,.bool false] 44)):=((Below.refl w.heap.size w).alloc (Nat.le_refl _) _).alloc (by simp) _
  have y0 : ((w.alloc (Obj.cells #[.int .i64 c,.int .i64 n,.int .i64 k,.int .i64 p,.string s,.slice a m cap,.int .i64 tc,.int .i64 tn,.bool on] 44)).alloc (Obj.cells #[.int .i64 0,.int .i64 0,.int .i64 0,.int .i64 0,.string ⟨#[]⟩,.slice none 0 0,.int .i64 0,.int .i64 0,.bool false] 44)).heap[w.heap.size]? = some (Obj.cells #[.int .i64 c,.int .i64 n,.int .i64 k,.int .i64 p,.string s,.slice a m cap,.int .i64 tc,.int .i64 tn,.bool on] 44):=(Below.heap_alloc _ _ _ (by simp)).trans (alloc_last _ _ _ rfl)
  have x0 : ((w.alloc (Obj.cells #[.int .i64 c,.int .i64 n,.int .i64 k,.int .i64 p,.string s,.slice a m cap,.int .i64 tc,.int .i64 tn,.bool on] 44)).alloc (Obj.cells #[.int .i64 0,.int .i64 0,.int .i64 0,.int .i64 0,.string ⟨#[]⟩,.slice none 0 0,.int .i64 0,.int .i64 0,.bool false] 44)).heap[w.heap.size + 1]? = some (Obj.cells #[.int .i64 0,.int .i64 0,.int .i64 0,.int .i64 0,.string ⟨#[]⟩,.slice none 0 0,.int .i64 0,.int .i64 0,.bool false] 44):=alloc_last _ _ _ (by simp)
  have hXs : ((w.alloc (Obj.cells #[.int .i64 c,.int .i64 n,.int .i64 k,.int .i64 p,.string s,.slice a m cap,.int .i64 tc,.int .i64 tn,.bool on] 44)).alloc (Obj.cells #[.int .i64 0,.int .i64 0,.int .i64 0,.int .i64 0,.string ⟨#[]⟩,.slice none 0 0,.int .i64 0,.int .i64 0,.bool false] 44)).heap.size = w.heap.size + 2:=by simp
  go_enter Tryz.func40,Tryz.ntmps40
  go_wp2_with fail
  refine (HS.out _).mono ?_
  rintro e w1 ⟨rfl,hb1⟩
  have hB1:=hX.trans (hb1.mono hX.size)
  have x1:=(hb1.block _ (Array.getElem?_eq_some_iff.1 x0).1).trans x0
  have y1:=(hb1.block _ (Array.getElem?_eq_some_iff.1 y0).1).trans y0
  have hs1 : w.heap.size + 2≤w1.heap.size:=by have:=hb1.size; rw [hXs] at this; exact this
  clear hX x0 y0 hb1 hXs
  have f0 : w1.cell? ⟨w.heap.size,0,none⟩ = some (.int .i64 c):=by rw [Lib.cell_of_heap y1]; rfl
  have f1 : w1.cell? ⟨w.heap.size,1,none⟩ = some (.int .i64 n):=by rw [Lib.cell_of_heap y1]; rfl
  have f2 : w1.cell? ⟨w.heap.size,2,none⟩ = some (.int .i64 k):=by rw [Lib.cell_of_heap y1]; rfl
  have f3 : w1.cell? ⟨w.heap.size,3,none⟩ = some (.int .i64 p):=by rw [Lib.cell_of_heap y1]; rfl
  have f4 : w1.cell? ⟨w.heap.size,4,none⟩ = some (.string s):=by rw [Lib.cell_of_heap y1]; rfl
  have fz4 : w1.frozen? ⟨w.heap.size,4,none⟩ = false:=Lib.frozen_of_heap y1 4
  have f5 : w1.cell? ⟨w.heap.size,5,none⟩ = some (.slice a m cap):=by rw [Lib.cell_of_heap y1]; rfl
  have f6 : w1.cell? ⟨w.heap.size,6,none⟩ = some (.int .i64 tc):=by rw [Lib.cell_of_heap y1]; rfl
  have f7 : w1.cell? ⟨w.heap.size,7,none⟩ = some (.int .i64 tn):=by rw [Lib.cell_of_heap y1]; rfl
  have f8 : w1.cell? ⟨w.heap.size,8,none⟩ = some (.bool on):=by rw [Lib.cell_of_heap y1]; rfl
  have sy : (w1.setCell ⟨w.heap.size,4,none⟩ (.string s)).heap[w.heap.size]? = some (Obj.cells #[.int .i64 c,.int .i64 n,.int .i64 k,.int .i64 p,.string s,.slice a m cap,.int .i64 tc,.int .i64 tn,.bool on] 44):=(heap_setCell_same _ w.heap.size 4 _ _ _ y1).trans (by simp)
  have sx : (w1.setCell ⟨w.heap.size,4,none⟩ (.string s)).heap[w.heap.size + 1]? = some (Obj.cells #[.int .i64 0,.int .i64 0,.int .i64 0,.int .i64 0,.string ⟨#[]⟩,.slice none 0 0,.int .i64 0,.int .i64 0,.bool false] 44):=(Below.heap_setCell _ _ _ _ (by simp)).trans x1
  have sB:=hB1.setCell (p:=⟨w.heap.size,4,none⟩) (Nat.le_refl _) (.string s)
  have hs2 : w.heap.size + 2≤(w1.setCell ⟨w.heap.size,4,none⟩ (.string s)).heap.size:=by simpa [World.setCell] using hs1
  go_wp2_with fail
  refine (HR.out _ sB).mono ?_
  rintro e w2 ⟨v,rfl,hown,hb2⟩
  have hB2:=sB.trans (hb2.mono sB.size)
  have x2:=(hb2.block _ (Array.getElem?_eq_some_iff.1 sx).1).trans sx
  have y2:=(hb2.block _ (Array.getElem?_eq_some_iff.1 sy).1).trans sy
  obtain ⟨va,vc,rfl⟩:=hown.shape
  rw [hlen] at hown ⊢
  have HO : Hid (OwnF rngV 2 76 w2 (w.heap.size + 2) (.slice va m vc) l):=hown.mono hs2
  clear f0 f1 f2 f3 f4 f5 f6 f7 f8 fz4 sy sx sB hb2 hown x1 y1 hB1 hs1 hs2
  have f0 : w2.cell? ⟨w.heap.size,0,none⟩ = some (.int .i64 c):=by rw [Lib.cell_of_heap y2]; rfl
  have f1 : w2.cell? ⟨w.heap.size,1,none⟩ = some (.int .i64 n):=by rw [Lib.cell_of_heap y2]; rfl
  have f2 : w2.cell? ⟨w.heap.size,2,none⟩ = some (.int .i64 k):=by rw [Lib.cell_of_heap y2]; rfl
  have f3 : w2.cell? ⟨w.heap.size,3,none⟩ = some (.int .i64 p):=by rw [Lib.cell_of_heap y2]; rfl
  have f4 : w2.cell? ⟨w.heap.size,4,none⟩ = some (.string s):=by rw [Lib.cell_of_heap y2]; rfl
  have f5 : w2.cell? ⟨w.heap.size,5,none⟩ = some (.slice a m cap):=by rw [Lib.cell_of_heap y2]; rfl
  have fz5 : w2.frozen? ⟨w.heap.size,5,none⟩ = false:=Lib.frozen_of_heap y2 5
  have f6 : w2.cell? ⟨w.heap.size,6,none⟩ = some (.int .i64 tc):=by rw [Lib.cell_of_heap y2]; rfl
  have f7 : w2.cell? ⟨w.heap.size,7,none⟩ = some (.int .i64 tn):=by rw [Lib.cell_of_heap y2]; rfl
  have f8 : w2.cell? ⟨w.heap.size,8,none⟩ = some (.bool on):=by rw [Lib.cell_of_heap y2]; rfl
  have d0 : w2.cell? ⟨w.heap.size + 1,0,none⟩ = some (.int .i64 0):=by rw [Lib.cell_of_heap x2]; rfl
  have dz0 : w2.frozen? ⟨w.heap.size + 1,0,none⟩ = false:=Lib.frozen_of_heap x2 0
  have d1 : w2.cell? ⟨w.heap.size + 1,1,none⟩ = some (.int .i64 0):=by rw [Lib.cell_of_heap x2]; rfl
  have dz1 : w2.frozen? ⟨w.heap.size + 1,1,none⟩ = false:=Lib.frozen_of_heap x2 1
  have d2 : w2.cell? ⟨w.heap.size + 1,2,none⟩ = some (.int .i64 0):=by rw [Lib.cell_of_heap x2]; rfl
  have dz2 : w2.frozen? ⟨w.heap.size + 1,2,none⟩ = false:=Lib.frozen_of_heap x2 2
  have d3 : w2.cell? ⟨w.heap.size + 1,3,none⟩ = some (.int .i64 0):=by rw [Lib.cell_of_heap x2]; rfl
  have dz3 : w2.frozen? ⟨w.heap.size + 1,3,none⟩ = false:=Lib.frozen_of_heap x2 3
  have d4 : w2.cell? ⟨w.heap.size + 1,4,none⟩ = some (.string ⟨#[]⟩):=by rw [Lib.cell_of_heap x2]; rfl
  have dz4 : w2.frozen? ⟨w.heap.size + 1,4,none⟩ = false:=Lib.frozen_of_heap x2 4
  have d5 : w2.cell? ⟨w.heap.size + 1,5,none⟩ = some (.slice none 0 0):=by rw [Lib.cell_of_heap x2]; rfl
  have dz5 : w2.frozen? ⟨w.heap.size + 1,5,none⟩ = false:=Lib.frozen_of_heap x2 5
  have d6 : w2.cell? ⟨w.heap.size + 1,6,none⟩ = some (.int .i64 0):=by rw [Lib.cell_of_heap x2]; rfl
  have dz6 : w2.frozen? ⟨w.heap.size + 1,6,none⟩ = false:=Lib.frozen_of_heap x2 6
  have d7 : w2.cell? ⟨w.heap.size + 1,7,none⟩ = some (.int .i64 0):=by rw [Lib.cell_of_heap x2]; rfl
  have dz7 : w2.frozen? ⟨w.heap.size + 1,7,none⟩ = false:=Lib.frozen_of_heap x2 7
  have d8 : w2.cell? ⟨w.heap.size + 1,8,none⟩ = some (.bool false):=by rw [Lib.cell_of_heap x2]; rfl
  have dz8 : w2.frozen? ⟨w.heap.size + 1,8,none⟩ = false:=Lib.frozen_of_heap x2 8
  have sx : (w2.setCell ⟨w.heap.size,5,none⟩ (.slice va m vc)).heap[w.heap.size + 1]? = some (Obj.cells #[.int .i64 0,.int .i64 0,.int .i64 0,.int .i64 0,.string ⟨#[]⟩,.slice none 0 0,.int .i64 0,.int .i64 0,.bool false] 44):=(Below.heap_setCell _ _ _ _ (by simp)).trans x2
  have sB:=hB2.setCell (p:=⟨w.heap.size,5,none⟩) (Nat.le_refl _) (.slice va m vc)
  have hx9:=set9g (v0:=.int .i64 c) (v1:=.int .i64 n) (v2:=.int .i64 k) (v3:=.int .i64 p) (v4:=.string s) (v5:=.slice va m vc) (v6:=.int .i64 tc) (v7:=.int .i64 tn) (v8:=.bool on) sx
  have hq0:=sB.setCell (p:=⟨w.heap.size + 1,0,none⟩) (by simp only; omega) (.int .i64 c)
  have hq1:=hq0.setCell (p:=⟨w.heap.size + 1,1,none⟩) (by simp only; omega) (.int .i64 n)
  have hq2:=hq1.setCell (p:=⟨w.heap.size + 1,2,none⟩) (by simp only; omega) (.int .i64 k)
  have hq3:=hq2.setCell (p:=⟨w.heap.size + 1,3,none⟩) (by simp only; omega) (.int .i64 p)
  have hq4:=hq3.setCell (p:=⟨w.heap.size + 1,4,none⟩) (by simp only; omega) (.string s)
  have hq5:=hq4.setCell (p:=⟨w.heap.size + 1,5,none⟩) (by simp only; omega) (.slice va m vc)
  have hq6:=hq5.setCell (p:=⟨w.heap.size + 1,6,none⟩) (by simp only; omega) (.int .i64 tc)
  have hq7:=hq6.setCell (p:=⟨w.heap.size + 1,7,none⟩) (by simp only; omega) (.int .i64 tn)
  have hq8:=hq7.setCell (p:=⟨w.heap.size + 1,8,none⟩) (by simp only; omega) (.bool on)
  obtain ⟨w9,hw9⟩ : ∃ w9,((((((((((w2.setCell ⟨w.heap.size,5,none⟩ (.slice va m vc)).setCell ⟨w.heap.size + 1,0,none⟩ (.int .i64 c)).setCell ⟨w.heap.size + 1,1,none⟩ (.int .i64 n)).setCell ⟨w.heap.size + 1,2,none⟩ (.int .i64 k)).setCell ⟨w.heap.size + 1,3,none⟩ (.int .i64 p)).setCell ⟨w.heap.size + 1,4,none⟩ (.string s)).setCell ⟨w.heap.size + 1,5,none⟩ (.slice va m vc)).setCell ⟨w.heap.size + 1,6,none⟩ (.int .i64 tc)).setCell ⟨w.heap.size + 1,7,none⟩ (.int .i64 tn)).setCell ⟨w.heap.size + 1,8,none⟩ (.bool on)) = w9:=⟨_,rfl⟩
  have HO9 : Hid (OwnF rngV 2 76 w9 (w.heap.size + 2) (.slice va m vc) l):=by
    show OwnF _ _ _ _ _ _ _
    rw [← hw9]
    refine own_set ?_ _ _ _ (by omega)
    refine own_set ?_ _ _ _ (by omega)
    refine own_set ?_ _ _ _ (by omega)
    refine own_set ?_ _ _ _ (by omega)
    refine own_set ?_ _ _ _ (by omega)
    refine own_set ?_ _ _ _ (by omega)
    refine own_set ?_ _ _ _ (by omega)
    refine own_set ?_ _ _ _ (by omega)
    refine own_set ?_ _ _ _ (by omega)
    refine own_set ?_ _ _ _ (by omega)
    exact HO.out
  rw [hw9] at hx9 hq8
  have r0 : w9.cell? ⟨w.heap.size + 1,0,none⟩ = some (.int .i64 c):=by rw [Lib.cell_of_heap hx9]; rfl
  have r1 : w9.cell? ⟨w.heap.size + 1,1,none⟩ = some (.int .i64 n):=by rw [Lib.cell_of_heap hx9]; rfl
  have r2 : w9.cell? ⟨w.heap.size + 1,2,none⟩ = some (.int .i64 k):=by rw [Lib.cell_of_heap hx9]; rfl
  have r3 : w9.cell? ⟨w.heap.size + 1,3,none⟩ = some (.int .i64 p):=by rw [Lib.cell_of_heap hx9]; rfl
  have r4 : w9.cell? ⟨w.heap.size + 1,4,none⟩ = some (.string s):=by rw [Lib.cell_of_heap hx9]; rfl
  have r5 : w9.cell? ⟨w.heap.size + 1,5,none⟩ = some (.slice va m vc):=by rw [Lib.cell_of_heap hx9]; rfl
  have r6 : w9.cell? ⟨w.heap.size + 1,6,none⟩ = some (.int .i64 tc):=by rw [Lib.cell_of_heap hx9]; rfl
  have r7 : w9.cell? ⟨w.heap.size + 1,7,none⟩ = some (.int .i64 tn):=by rw [Lib.cell_of_heap hx9]; rfl
  have r8 : w9.cell? ⟨w.heap.size + 1,8,none⟩ = some (.bool on):=by rw [Lib.cell_of_heap hx9]; rfl
  clear hq7 hq6 hq5 hq4 hq3 hq2 hq1 hq0 sx sB
  go_wp2_with fail
  try rw [hw9]
  refine bodyPost_ret (v:=.agg #[.int .i64 c,.int .i64 n,.int .i64 k,.int .i64 p,.string s,.slice va m vc,.int .i64 tc,.int .i64 tn,.bool on]) (by simp [results,Tryz.results40,go_sem,r0,r1,r2,r3,r4,r5,r6,r7,r8]) rfl ⟨va,vc,rfl,HO9.out,hq8⟩
set_option maxHeartbeats 2000000 in
theorem inverse_wrong {c n k p : Int} {s : ByteArray} {l : List (Int × Int)} {tc tn : Int} {on : Bool} {w : World} {a : Option Addr} {m cap : Nat} (h : Rng w a m cap l) (hm : m≤1000000000) (hs : s.size≤9223372036854775807) (hw : Bar w) (hok : ownP ⟨c,n,k,p,s,l,tc,tn,on⟩ ≠ 0) :
    Calls Tryz.prog 41 #[opVal ⟨c,n,k,p,s,l,tc,tn,on⟩ (.slice a m cap)] w fun e w'=>e = .returned (.tuple #[opVal zeroOp (.slice none 0 0),.int .i64 (ownP ⟨c,n,k,p,s,l,tc,tn,on⟩)])∧Below w.heap.size w w':=by
  have _hm:=hm
  have HO : Hid (∀ w' : World,Below w.heap.size w w'→Calls Tryz.prog 52 #[opVal ⟨c,n,k,p,s,l,tc,tn,on⟩ (.slice a m cap)] w' fun e w''=>e = .returned (.int .i64 (ownP ⟨c,n,k,p,s,l,tc,tn,on⟩))∧Below w'.heap.size w' w''):=fun w' hb=>ownError_any (o:=⟨c,n,k,p,s,l,tc,tn,on⟩) (h.below hb) hs (hw.below hb)
  have t1 : (ownP ⟨c,n,k,p,s,l,tc,tn,on⟩ == 0) = false:=beq_eq_false_iff_ne.2 hok
  have t2 : decide (ownP ⟨c,n,k,p,s,l,tc,tn,on⟩ = 0) = false:=decide_eq_false hok
  have t3 : ¬ ownP ⟨c,n,k,p,s,l,tc,tn,on⟩ = 0:=hok
  generalize ownP ⟨c,n,k,p,s,l,tc,tn,on⟩ = r at *
  clear h hs hw hok
  simp only [opVal,zeroOp] at *
  have hX : Below w.heap.size w ((w.alloc (Obj.cells #[.int .i64 c,.int .i64 n,.int .i64 k,.int .i64 p,.string s,.slice a m cap,.int .i64 tc,.int .i64 tn,.bool on] 44)).alloc (Obj.cells #[.int .i64 0,.int .i64 0,.int .i64 0,.int .i64 0,.string ⟨#[]⟩,.slice none 0 0,.int .i64 0,.int .i64 0,.bool false] 44)):=((Below.refl w.heap.size w).alloc (Nat.le_refl _) _).alloc (by simp) _
  have y0 : ((w.alloc (Obj.cells #[.int .i64 c,.int .i64 n,.int .i64 k,.int .i64 p,.string s,.slice a m cap,.int .i64 tc,.int .i64 tn,.bool on] 44)).alloc (Obj.cells #[.int .i64 0,.int .i64 0,.int .i64 0,.int .i64 0,.string ⟨#[]⟩,.slice none 0 0,.int .i64 0,.int .i64 0,.bool false] 44)).heap[w.heap.size]? = some (Obj.cells #[.int .i64 c,.int .i64 n,.int .i64 k,.int .i64 p,.string s,.slice a m cap,.int .i64 tc,.int .i64 tn,.bool on] 44):=(Below.heap_alloc _ _ _ (by simp)).trans (alloc_last _ _ _ rfl)
  have x0 : ((w.alloc (Obj.cells #[.int .i64 c,.int .i64 n,.int .i64 k,.int .i64 p,.string s,.slice a m cap,.int .i64 tc,.int .i64 tn,.bool on] 44)).alloc (Obj.cells #[.int .i64 0,.int .i64 0,.int .i64 0,.int .i64 0,.string ⟨#[]⟩,.slice none 0 0,.int .i64 0,.int .i64 0,.bool false] 44)).heap[w.heap.size + 1]? = some (Obj.cells #[.int .i64 0,.int .i64 0,.int .i64 0,.int .i64 0,.string ⟨#[]⟩,.slice none 0 0,.int .i64 0,.int .i64 0,.bool false] 44):=alloc_last _ _ _ (by simp)
  have hXs : ((w.alloc (Obj.cells #[.int .i64 c,.int .i64 n,.int .i64 k,.int .i64 p,.string s,.slice a m cap,.int .i64 tc,.int .i64 tn,.bool on] 44)).alloc (Obj.cells #[.int .i64 0,.int .i64 0,.int .i64 0,.int .i64 0,.string ⟨#[]⟩,.slice none 0 0,.int .i64 0,.int .i64 0,.bool false] 44)).heap.size = w.heap.size + 2:=by simp
  go_enter Tryz.func41,Tryz.ntmps41
  go_wp2_with fail
  refine (HO.out _ hX).mono ?_
  rintro e w1 ⟨rfl,hb1⟩
  have hB1:=hX.trans (hb1.mono hX.size)
  have x1:=(hb1.block _ (Array.getElem?_eq_some_iff.1 x0).1).trans x0
  have y1:=(hb1.block _ (Array.getElem?_eq_some_iff.1 y0).1).trans y0
  have hs1 : w.heap.size + 2≤w1.heap.size:=by have:=hb1.size; rw [hXs] at this; exact this
  clear hX x0 y0 hb1 hXs
  have f0 : w1.cell? ⟨w.heap.size,0,none⟩ = some (.int .i64 c):=by rw [Lib.cell_of_heap y1]; rfl
  have f1 : w1.cell? ⟨w.heap.size,1,none⟩ = some (.int .i64 n):=by rw [Lib.cell_of_heap y1]; rfl
  have f2 : w1.cell? ⟨w.heap.size,2,none⟩ = some (.int .i64 k):=by rw [Lib.cell_of_heap y1]; rfl
  have f3 : w1.cell? ⟨w.heap.size,3,none⟩ = some (.int .i64 p):=by rw [Lib.cell_of_heap y1]; rfl
  have f4 : w1.cell? ⟨w.heap.size,4,none⟩ = some (.string s):=by rw [Lib.cell_of_heap y1]; rfl
  have f5 : w1.cell? ⟨w.heap.size,5,none⟩ = some (.slice a m cap):=by rw [Lib.cell_of_heap y1]; rfl
  have f6 : w1.cell? ⟨w.heap.size,6,none⟩ = some (.int .i64 tc):=by rw [Lib.cell_of_heap y1]; rfl
  have f7 : w1.cell? ⟨w.heap.size,7,none⟩ = some (.int .i64 tn):=by rw [Lib.cell_of_heap y1]; rfl
  have f8 : w1.cell? ⟨w.heap.size,8,none⟩ = some (.bool on):=by rw [Lib.cell_of_heap y1]; rfl
  have d0 : w1.cell? ⟨w.heap.size + 1,0,none⟩ = some (.int .i64 0):=by rw [Lib.cell_of_heap x1]; rfl
  have dz0 : w1.frozen? ⟨w.heap.size + 1,0,none⟩ = false:=Lib.frozen_of_heap x1 0
  have d1 : w1.cell? ⟨w.heap.size + 1,1,none⟩ = some (.int .i64 0):=by rw [Lib.cell_of_heap x1]; rfl
  have dz1 : w1.frozen? ⟨w.heap.size + 1,1,none⟩ = false:=Lib.frozen_of_heap x1 1
  have d2 : w1.cell? ⟨w.heap.size + 1,2,none⟩ = some (.int .i64 0):=by rw [Lib.cell_of_heap x1]; rfl
  have dz2 : w1.frozen? ⟨w.heap.size + 1,2,none⟩ = false:=Lib.frozen_of_heap x1 2
  have d3 : w1.cell? ⟨w.heap.size + 1,3,none⟩ = some (.int .i64 0):=by rw [Lib.cell_of_heap x1]; rfl
  have dz3 : w1.frozen? ⟨w.heap.size + 1,3,none⟩ = false:=Lib.frozen_of_heap x1 3
  have d4 : w1.cell? ⟨w.heap.size + 1,4,none⟩ = some (.string ⟨#[]⟩):=by rw [Lib.cell_of_heap x1]; rfl
  have dz4 : w1.frozen? ⟨w.heap.size + 1,4,none⟩ = false:=Lib.frozen_of_heap x1 4
  have d5 : w1.cell? ⟨w.heap.size + 1,5,none⟩ = some (.slice none 0 0):=by rw [Lib.cell_of_heap x1]; rfl
  have dz5 : w1.frozen? ⟨w.heap.size + 1,5,none⟩ = false:=Lib.frozen_of_heap x1 5
  have d6 : w1.cell? ⟨w.heap.size + 1,6,none⟩ = some (.int .i64 0):=by rw [Lib.cell_of_heap x1]; rfl
  have dz6 : w1.frozen? ⟨w.heap.size + 1,6,none⟩ = false:=Lib.frozen_of_heap x1 6
  have d7 : w1.cell? ⟨w.heap.size + 1,7,none⟩ = some (.int .i64 0):=by rw [Lib.cell_of_heap x1]; rfl
  have dz7 : w1.frozen? ⟨w.heap.size + 1,7,none⟩ = false:=Lib.frozen_of_heap x1 7
  have d8 : w1.cell? ⟨w.heap.size + 1,8,none⟩ = some (.bool false):=by rw [Lib.cell_of_heap x1]; rfl
  have dz8 : w1.frozen? ⟨w.heap.size + 1,8,none⟩ = false:=Lib.frozen_of_heap x1 8
  have hx9:=set9g (v0:=.int .i64 0) (v1:=.int .i64 0) (v2:=.int .i64 0) (v3:=.int .i64 0) (v4:=.string ⟨#[]⟩) (v5:=.slice none 0 0) (v6:=.int .i64 0) (v7:=.int .i64 0) (v8:=.bool false) x1
  have hq0:=hB1.setCell (p:=⟨w.heap.size + 1,0,none⟩) (by simp only; omega) (.int .i64 0)
  have hq1:=hq0.setCell (p:=⟨w.heap.size + 1,1,none⟩) (by simp only; omega) (.int .i64 0)
  have hq2:=hq1.setCell (p:=⟨w.heap.size + 1,2,none⟩) (by simp only; omega) (.int .i64 0)
  have hq3:=hq2.setCell (p:=⟨w.heap.size + 1,3,none⟩) (by simp only; omega) (.int .i64 0)
  have hq4:=hq3.setCell (p:=⟨w.heap.size + 1,4,none⟩) (by simp only; omega) (.string ⟨#[]⟩)
  have hq5:=hq4.setCell (p:=⟨w.heap.size + 1,5,none⟩) (by simp only; omega) (.slice none 0 0)
  have hq6:=hq5.setCell (p:=⟨w.heap.size + 1,6,none⟩) (by simp only; omega) (.int .i64 0)
  have hq7:=hq6.setCell (p:=⟨w.heap.size + 1,7,none⟩) (by simp only; omega) (.int .i64 0)
  have hq8:=hq7.setCell (p:=⟨w.heap.size + 1,8,none⟩) (by simp only; omega) (.bool false)
  obtain ⟨w9,hw9⟩ : ∃ w9,(((((((((w1.setCell ⟨w.heap.size + 1,0,none⟩ (.int .i64 0)).setCell ⟨w.heap.size + 1,1,none⟩ (.int .i64 0)).setCell ⟨w.heap.size + 1,2,none⟩ (.int .i64 0)).setCell ⟨w.heap.size + 1,3,none⟩ (.int .i64 0)).setCell ⟨w.heap.size + 1,4,none⟩ (.string ⟨#[]⟩)).setCell ⟨w.heap.size + 1,5,none⟩ (.slice none 0 0)).setCell ⟨w.heap.size + 1,6,none⟩ (.int .i64 0)).setCell ⟨w.heap.size + 1,7,none⟩ (.int .i64 0)).setCell ⟨w.heap.size + 1,8,none⟩ (.bool false)) = w9:=⟨_,rfl⟩
  rw [hw9] at hx9 hq8
  have r0 : w9.cell? ⟨w.heap.size + 1,0,none⟩ = some (.int .i64 0):=by rw [Lib.cell_of_heap hx9]; rfl
  have r1 : w9.cell? ⟨w.heap.size + 1,1,none⟩ = some (.int .i64 0):=by rw [Lib.cell_of_heap hx9]; rfl
  have r2 : w9.cell? ⟨w.heap.size + 1,2,none⟩ = some (.int .i64 0):=by rw [Lib.cell_of_heap hx9]; rfl
  have r3 : w9.cell? ⟨w.heap.size + 1,3,none⟩ = some (.int .i64 0):=by rw [Lib.cell_of_heap hx9]; rfl
  have r4 : w9.cell? ⟨w.heap.size + 1,4,none⟩ = some (.string ⟨#[]⟩):=by rw [Lib.cell_of_heap hx9]; rfl
  have r5 : w9.cell? ⟨w.heap.size + 1,5,none⟩ = some (.slice none 0 0):=by rw [Lib.cell_of_heap hx9]; rfl
  have r6 : w9.cell? ⟨w.heap.size + 1,6,none⟩ = some (.int .i64 0):=by rw [Lib.cell_of_heap hx9]; rfl
  have r7 : w9.cell? ⟨w.heap.size + 1,7,none⟩ = some (.int .i64 0):=by rw [Lib.cell_of_heap hx9]; rfl
  have r8 : w9.cell? ⟨w.heap.size + 1,8,none⟩ = some (.bool false):=by rw [Lib.cell_of_heap hx9]; rfl
  clear hq7 hq6 hq5 hq4 hq3 hq2 hq1 hq0
  go_wp2_with fail
  try rw [hw9]
  refine bodyPost_ret (v:=.tuple #[.agg #[.int .i64 0,.int .i64 0,.int .i64 0,.int .i64 0,.string ⟨#[]⟩,.slice none 0 0,.int .i64 0,.int .i64 0,.bool false],.int .i64 r]) (by simp [results,Tryz.results41,go_sem,r0,r1,r2,r3,r4,r5,r6,r7,r8]) rfl ⟨rfl,hq8⟩
set_option maxHeartbeats 2000000 in
theorem inverse_4 {c n p : Int} {s : ByteArray} {l : List (Int × Int)} {tc tn : Int} {on : Bool} {w : World} {a : Option Addr} {m cap : Nat} (h : Rng w a m cap l) (hm : m≤1000000000) (hs : s.size≤9223372036854775807) (hw : Bar w) (hok : ownP ⟨c,n,4,p,s,l,tc,tn,on⟩ = 0) :
    Calls Tryz.prog 41 #[opVal ⟨c,n,4,p,s,l,tc,tn,on⟩ (.slice a m cap)] w fun e w'=>e = .returned (.tuple #[opVal ⟨0,0,4,0,⟨#[]⟩,[],tc,tn,!on⟩ (.slice none 0 0),.int .i64 0])∧Below w.heap.size w w':=by
  have _hm:=hm
  have HO : Hid (∀ w' : World,Below w.heap.size w w'→Calls Tryz.prog 52 #[opVal ⟨c,n,4,p,s,l,tc,tn,on⟩ (.slice a m cap)] w' fun e w''=>e = .returned (.int .i64 (ownP ⟨c,n,4,p,s,l,tc,tn,on⟩))∧Below w'.heap.size w' w''):=fun w' hb=>ownError_any (o:=⟨c,n,4,p,s,l,tc,tn,on⟩) (h.below hb) hs (hw.below hb)
  rw [hok] at HO
  clear h hs hw hok
  simp only [opVal] at *
  have hX : Below w.heap.size w ((w.alloc (Obj.cells #[.int .i64 c,.int .i64 n,.int .i64 4,.int .i64 p,.string s,.slice a m cap,.int .i64 tc,.int .i64 tn,.bool on] 44)).alloc (Obj.cells #[.int .i64 0,.int .i64 0,.int .i64 0,.int .i64 0,.string ⟨#[]⟩,.slice none 0 0,.int .i64 0,.int .i64 0,.bool false] 44)):=((Below.refl w.heap.size w).alloc (Nat.le_refl _) _).alloc (by simp) _
  have y0 : ((w.alloc (Obj.cells #[.int .i64 c,.int .i64 n,.int .i64 4,.int .i64 p,.string s,.slice a m cap,.int .i64 tc,.int .i64 tn,.bool on] 44)).alloc (Obj.cells #[.int .i64 0,.int .i64 0,.int .i64 0,.int .i64 0,.string ⟨#[]⟩,.slice none 0 0,.int .i64 0,.int .i64 0,.bool false] 44)).heap[w.heap.size]? = some (Obj.cells #[.int .i64 c,.int .i64 n,.int .i64 4,.int .i64 p,.string s,.slice a m cap,.int .i64 tc,.int .i64 tn,.bool on] 44):=(Below.heap_alloc _ _ _ (by simp)).trans (alloc_last _ _ _ rfl)
  have x0 : ((w.alloc (Obj.cells #[.int .i64 c,.int .i64 n,.int .i64 4,.int .i64 p,.string s,.slice a m cap,.int .i64 tc,.int .i64 tn,.bool on] 44)).alloc (Obj.cells #[.int .i64 0,.int .i64 0,.int .i64 0,.int .i64 0,.string ⟨#[]⟩,.slice none 0 0,.int .i64 0,.int .i64 0,.bool false] 44)).heap[w.heap.size + 1]? = some (Obj.cells #[.int .i64 0,.int .i64 0,.int .i64 0,.int .i64 0,.string ⟨#[]⟩,.slice none 0 0,.int .i64 0,.int .i64 0,.bool false] 44):=alloc_last _ _ _ (by simp)
  have hXs : ((w.alloc (Obj.cells #[.int .i64 c,.int .i64 n,.int .i64 4,.int .i64 p,.string s,.slice a m cap,.int .i64 tc,.int .i64 tn,.bool on] 44)).alloc (Obj.cells #[.int .i64 0,.int .i64 0,.int .i64 0,.int .i64 0,.string ⟨#[]⟩,.slice none 0 0,.int .i64 0,.int .i64 0,.bool false] 44)).heap.size = w.heap.size + 2:=by simp
  go_enter Tryz.func41,Tryz.ntmps41
  go_wp2_with fail
  refine (HO.out _ hX).mono ?_
  rintro e w1 ⟨rfl,hb1⟩
  have hB1:=hX.trans (hb1.mono hX.size)
  have x1:=(hb1.block _ (Array.getElem?_eq_some_iff.1 x0).1).trans x0
  have y1:=(hb1.block _ (Array.getElem?_eq_some_iff.1 y0).1).trans y0
  have hs1 : w.heap.size + 2≤w1.heap.size:=by have:=hb1.size; rw [hXs] at this; exact this
  clear hX x0 y0 hb1 hXs
  have f0 : w1.cell? ⟨w.heap.size,0,none⟩ = some (.int .i64 c):=by rw [Lib.cell_of_heap y1]; rfl
  have f1 : w1.cell? ⟨w.heap.size,1,none⟩ = some (.int .i64 n):=by rw [Lib.cell_of_heap y1]; rfl
  have f2 : w1.cell? ⟨w.heap.size,2,none⟩ = some (.int .i64 4):=by rw [Lib.cell_of_heap y1]; rfl
  have f3 : w1.cell? ⟨w.heap.size,3,none⟩ = some (.int .i64 p):=by rw [Lib.cell_of_heap y1]; rfl
  have f4 : w1.cell? ⟨w.heap.size,4,none⟩ = some (.string s):=by rw [Lib.cell_of_heap y1]; rfl
  have f5 : w1.cell? ⟨w.heap.size,5,none⟩ = some (.slice a m cap):=by rw [Lib.cell_of_heap y1]; rfl
  have f6 : w1.cell? ⟨w.heap.size,6,none⟩ = some (.int .i64 tc):=by rw [Lib.cell_of_heap y1]; rfl
  have f7 : w1.cell? ⟨w.heap.size,7,none⟩ = some (.int .i64 tn):=by rw [Lib.cell_of_heap y1]; rfl
  have f8 : w1.cell? ⟨w.heap.size,8,none⟩ = some (.bool on):=by rw [Lib.cell_of_heap y1]; rfl
  have d0 : w1.cell? ⟨w.heap.size + 1,0,none⟩ = some (.int .i64 0):=by rw [Lib.cell_of_heap x1]; rfl
  have dz0 : w1.frozen? ⟨w.heap.size + 1,0,none⟩ = false:=Lib.frozen_of_heap x1 0
  have d1 : w1.cell? ⟨w.heap.size + 1,1,none⟩ = some (.int .i64 0):=by rw [Lib.cell_of_heap x1]; rfl
  have dz1 : w1.frozen? ⟨w.heap.size + 1,1,none⟩ = false:=Lib.frozen_of_heap x1 1
  have d2 : w1.cell? ⟨w.heap.size + 1,2,none⟩ = some (.int .i64 0):=by rw [Lib.cell_of_heap x1]; rfl
  have dz2 : w1.frozen? ⟨w.heap.size + 1,2,none⟩ = false:=Lib.frozen_of_heap x1 2
  have d3 : w1.cell? ⟨w.heap.size + 1,3,none⟩ = some (.int .i64 0):=by rw [Lib.cell_of_heap x1]; rfl
  have dz3 : w1.frozen? ⟨w.heap.size + 1,3,none⟩ = false:=Lib.frozen_of_heap x1 3
  have d4 : w1.cell? ⟨w.heap.size + 1,4,none⟩ = some (.string ⟨#[]⟩):=by rw [Lib.cell_of_heap x1]; rfl
  have dz4 : w1.frozen? ⟨w.heap.size + 1,4,none⟩ = false:=Lib.frozen_of_heap x1 4
  have d5 : w1.cell? ⟨w.heap.size + 1,5,none⟩ = some (.slice none 0 0):=by rw [Lib.cell_of_heap x1]; rfl
  have dz5 : w1.frozen? ⟨w.heap.size + 1,5,none⟩ = false:=Lib.frozen_of_heap x1 5
  have d6 : w1.cell? ⟨w.heap.size + 1,6,none⟩ = some (.int .i64 0):=by rw [Lib.cell_of_heap x1]; rfl
  have dz6 : w1.frozen? ⟨w.heap.size + 1,6,none⟩ = false:=Lib.frozen_of_heap x1 6
  have d7 : w1.cell? ⟨w.heap.size + 1,7,none⟩ = some (.int .i64 0):=by rw [Lib.cell_of_heap x1]; rfl
  have dz7 : w1.frozen? ⟨w.heap.size + 1,7,none⟩ = false:=Lib.frozen_of_heap x1 7
  have d8 : w1.cell? ⟨w.heap.size + 1,8,none⟩ = some (.bool false):=by rw [Lib.cell_of_heap x1]; rfl
  have dz8 : w1.frozen? ⟨w.heap.size + 1,8,none⟩ = false:=Lib.frozen_of_heap x1 8
  have hx9:=set9g (v0:=.int .i64 0) (v1:=.int .i64 0) (v2:=.int .i64 4) (v3:=.int .i64 0) (v4:=.string ⟨#[]⟩) (v5:=.slice none 0 0) (v6:=.int .i64 tc) (v7:=.int .i64 tn) (v8:=.bool (!on)) x1
  have hq0:=hB1.setCell (p:=⟨w.heap.size + 1,0,none⟩) (by simp only; omega) (.int .i64 0)
  have hq1:=hq0.setCell (p:=⟨w.heap.size + 1,1,none⟩) (by simp only; omega) (.int .i64 0)
  have hq2:=hq1.setCell (p:=⟨w.heap.size + 1,2,none⟩) (by simp only; omega) (.int .i64 4)
  have hq3:=hq2.setCell (p:=⟨w.heap.size + 1,3,none⟩) (by simp only; omega) (.int .i64 0)
  have hq4:=hq3.setCell (p:=⟨w.heap.size + 1,4,none⟩) (by simp only; omega) (.string ⟨#[]⟩)
  have hq5:=hq4.setCell (p:=⟨w.heap.size + 1,5,none⟩) (by simp only; omega) (.slice none 0 0)
  have hq6:=hq5.setCell (p:=⟨w.heap.size + 1,6,none⟩) (by simp only; omega) (.int .i64 tc)
  have hq7:=hq6.setCell (p:=⟨w.heap.size + 1,7,none⟩) (by simp only; omega) (.int .i64 tn)
  have hq8:=hq7.setCell (p:=⟨w.heap.size + 1,8,none⟩) (by simp only; omega) (.bool (!on))
  obtain ⟨w9,hw9⟩ : ∃ w9,(((((((((w1.setCell ⟨w.heap.size + 1,0,none⟩ (.int .i64 0)).setCell ⟨w.heap.size + 1,1,none⟩ (.int .i64 0)).setCell ⟨w.heap.size + 1,2,none⟩ (.int .i64 4)).setCell ⟨w.heap.size + 1,3,none⟩ (.int .i64 0)).setCell ⟨w.heap.size + 1,4,none⟩ (.string ⟨#[]⟩)).setCell ⟨w.heap.size + 1,5,none⟩ (.slice none 0 0)).setCell ⟨w.heap.size + 1,6,none⟩ (.int .i64 tc)).setCell ⟨w.heap.size + 1,7,none⟩ (.int .i64 tn)).setCell ⟨w.heap.size + 1,8,none⟩ (.bool (!on))) = w9:=⟨_,rfl⟩
  rw [hw9] at hx9 hq8
  have r0 : w9.cell? ⟨w.heap.size + 1,0,none⟩ = some (.int .i64 0):=by rw [Lib.cell_of_heap hx9]; rfl
  have r1 : w9.cell? ⟨w.heap.size + 1,1,none⟩ = some (.int .i64 0):=by rw [Lib.cell_of_heap hx9]; rfl
  have r2 : w9.cell? ⟨w.heap.size + 1,2,none⟩ = some (.int .i64 4):=by rw [Lib.cell_of_heap hx9]; rfl
  have r3 : w9.cell? ⟨w.heap.size + 1,3,none⟩ = some (.int .i64 0):=by rw [Lib.cell_of_heap hx9]; rfl
  have r4 : w9.cell? ⟨w.heap.size + 1,4,none⟩ = some (.string ⟨#[]⟩):=by rw [Lib.cell_of_heap hx9]; rfl
  have r5 : w9.cell? ⟨w.heap.size + 1,5,none⟩ = some (.slice none 0 0):=by rw [Lib.cell_of_heap hx9]; rfl
  have r6 : w9.cell? ⟨w.heap.size + 1,6,none⟩ = some (.int .i64 tc):=by rw [Lib.cell_of_heap hx9]; rfl
  have r7 : w9.cell? ⟨w.heap.size + 1,7,none⟩ = some (.int .i64 tn):=by rw [Lib.cell_of_heap hx9]; rfl
  have r8 : w9.cell? ⟨w.heap.size + 1,8,none⟩ = some (.bool (!on)):=by rw [Lib.cell_of_heap hx9]; rfl
  clear hq7 hq6 hq5 hq4 hq3 hq2 hq1 hq0
  go_wp2_with fail
  try rw [hw9]
  refine bodyPost_ret (v:=.tuple #[.agg #[.int .i64 0,.int .i64 0,.int .i64 4,.int .i64 0,.string ⟨#[]⟩,.slice none 0 0,.int .i64 tc,.int .i64 tn,.bool (!on)],.int .i64 0]) (by simp [results,Tryz.results41,go_sem,r0,r1,r2,r3,r4,r5,r6,r7,r8]) rfl ⟨rfl,hq8⟩
end Go.Proofs.YtijpfbcippijoaaGreatDoor

namespace Go.Proofs.YtijpfbcippijoaaGreatDoor
open Go.RowKit Go.Lib Sp
set_option maxRecDepth 100000
theorem ownX {w : World} {B : Nat} {v : Value} {l : List (Int × Int)} (h : OwnF rngV 2 76 w B v l) {b : Nat} {cs : Array Value} (hb : w.heap[b]? = some (.cells cs 44)) (i : Nat) (u : Value) : OwnF rngV 2 76 (w.setCell ⟨b,i,none⟩ u) B v l:=by
  refine ⟨h.1,?_⟩
  rcases h.2 with h1 | ⟨g,cap,cur,e,hB,hh,rest⟩
  · exact .inl h1
  · refine .inr ⟨g,cap,cur,e,hB,?_,rest⟩
    have hne : g ≠ b:=fun e=>by subst e; rw [hh] at hb; simp at hb
    exact (Below.heap_setCell _ _ _ _ (by simp only; exact hne)).trans hh
set_option maxHeartbeats 4000000 in
theorem gInverse_wrong {c n k p : Int} {s : ByteArray} {l : List (Int × Int)} {tc tn : Int} {on : Bool} {w : World} {a : Option Addr} {m cap : Nat} (h : Rng w a m cap l) (hm : m≤1000000000) (hs : s.size≤2097152) (hok : ownP ⟨c,n,k,p,s,l,tc,tn,on⟩ ≠ 0) :
    Calls Tryz.prog 42 #[opVal ⟨c,n,k,p,s,l,tc,tn,on⟩ (.slice a m cap)] w fun e w'=>e = .returned (.tuple #[opVal zeroOp (.slice none 0 0),.int .i64 (ownP ⟨c,n,k,p,s,l,tc,tn,on⟩)])∧Below w.heap.size w w':=by
  obtain ⟨C,hC⟩ : ∃ C,ownP ⟨c,n,k,p,s,l,tc,tn,on⟩ = C:=⟨_,rfl⟩
  have HO : Hid (∀ w' : World,Below w.heap.size w w'→Calls Tryz.prog 73 #[opVal ⟨c,n,k,p,s,l,tc,tn,on⟩ (.slice a m cap)] w' fun e w''=>e = .returned (.int .i64 C)∧Below w'.heap.size w' w''):=fun w' hb=>by rw [← hC]; exact gOwn_any (o:=⟨c,n,k,p,s,l,tc,tn,on⟩) (h.below hb) hs
  rw [hC] at hok ⊢
  clear hC
  have _hm:=hm
  clear h hs hm _hm
  simp only [opVal,zeroOp] at *
  obtain ⟨W1,hW1⟩ : ∃ W1,(w.alloc (Obj.cells #[.int .i64 c,.int .i64 n,.int .i64 k,.int .i64 p,.string s,.slice a m cap,.int .i64 tc,.int .i64 tn,.bool on] 44)).alloc (Obj.cells #[.int .i64 0,.int .i64 0,.int .i64 0,.int .i64 0,.string ⟨#[]⟩,.slice none 0 0,.int .i64 0,.int .i64 0,.bool false] 44) = W1:=⟨_,rfl⟩
  have hX : Below w.heap.size w W1:=by rw [← hW1]; exact ((Below.refl w.heap.size w).alloc (Nat.le_refl _) _).alloc (by simp) _
  have hx0 : W1.heap[w.heap.size]? = some (Obj.cells #[.int .i64 c,.int .i64 n,.int .i64 k,.int .i64 p,.string s,.slice a m cap,.int .i64 tc,.int .i64 tn,.bool on] 44):=by rw [← hW1]; exact (Below.heap_alloc _ _ _ (by simp)).trans (alloc_last _ _ _ rfl)
  have hz0 : W1.heap[w.heap.size + 1]? = some (Obj.cells #[.int .i64 0,.int .i64 0,.int .i64 0,.int .i64 0,.string ⟨#[]⟩,.slice none 0 0,.int .i64 0,.int .i64 0,.bool false] 44):=by rw [← hW1]; exact alloc_last _ _ _ (by simp)
  obtain ⟨y0,y1,y2,y3,y4,y5,y6,y7,y8⟩:=bx9 hx0
  go_enter Tryz.func42,Tryz.ntmps42
  go_wp2_with fail
  (try simp only [hW1])
  (try go_wp2_with fail)
  refine (HO.out _ hX).mono ?_
  rintro e w1 ⟨rfl,hb1⟩
  have hB1:=hX.trans (hb1.mono hX.size)
  have hx1:=(hb1.block _ (Array.getElem?_eq_some_iff.1 hx0).1).trans hx0
  have hz1:=(hb1.block _ (Array.getElem?_eq_some_iff.1 hz0).1).trans hz0
  have hlt1:=(Array.getElem?_eq_some_iff.1 hz1).1
  clear y0 y1 y2 y3 y4 y5 y6 y7 y8 hb1 hx0 hz0 hX hW1 HO
  have t1 : (C == 0) = false:=beq_eq_false_iff_ne.2 hok
  clear hok
  obtain ⟨d0,d1,d2,d3,d4,d5,d6,d7,d8⟩:=bx9 hz1
  have dz0 : w1.frozen? ⟨w.heap.size + 1,0,none⟩ = false:=Lib.frozen_of_heap hz1 0
  have dz1 : w1.frozen? ⟨w.heap.size + 1,1,none⟩ = false:=Lib.frozen_of_heap hz1 1
  have dz2 : w1.frozen? ⟨w.heap.size + 1,2,none⟩ = false:=Lib.frozen_of_heap hz1 2
  have dz3 : w1.frozen? ⟨w.heap.size + 1,3,none⟩ = false:=Lib.frozen_of_heap hz1 3
  have dz4 : w1.frozen? ⟨w.heap.size + 1,4,none⟩ = false:=Lib.frozen_of_heap hz1 4
  have dz5 : w1.frozen? ⟨w.heap.size + 1,5,none⟩ = false:=Lib.frozen_of_heap hz1 5
  have dz6 : w1.frozen? ⟨w.heap.size + 1,6,none⟩ = false:=Lib.frozen_of_heap hz1 6
  have dz7 : w1.frozen? ⟨w.heap.size + 1,7,none⟩ = false:=Lib.frozen_of_heap hz1 7
  have dz8 : w1.frozen? ⟨w.heap.size + 1,8,none⟩ = false:=Lib.frozen_of_heap hz1 8
  have hx9:=set9g (v0:=(.int .i64 0)) (v1:=(.int .i64 0)) (v2:=(.int .i64 0)) (v3:=(.int .i64 0)) (v4:=(.string ⟨#[]⟩)) (v5:=(.slice none 0 0)) (v6:=(.int .i64 0)) (v7:=(.int .i64 0)) (v8:=(.bool false)) hz1
  have hq0:=hB1.setCell (p:=⟨w.heap.size + 1,0,none⟩) (by simp only; omega) (.int .i64 0)
  have hq1:=hq0.setCell (p:=⟨w.heap.size + 1,1,none⟩) (by simp only; omega) (.int .i64 0)
  have hq2:=hq1.setCell (p:=⟨w.heap.size + 1,2,none⟩) (by simp only; omega) (.int .i64 0)
  have hq3:=hq2.setCell (p:=⟨w.heap.size + 1,3,none⟩) (by simp only; omega) (.int .i64 0)
  have hq4:=hq3.setCell (p:=⟨w.heap.size + 1,4,none⟩) (by simp only; omega) (.string ⟨#[]⟩)
  have hq5:=hq4.setCell (p:=⟨w.heap.size + 1,5,none⟩) (by simp only; omega) (.slice none 0 0)
  have hq6:=hq5.setCell (p:=⟨w.heap.size + 1,6,none⟩) (by simp only; omega) (.int .i64 0)
  have hq7:=hq6.setCell (p:=⟨w.heap.size + 1,7,none⟩) (by simp only; omega) (.int .i64 0)
  have hq8:=hq7.setCell (p:=⟨w.heap.size + 1,8,none⟩) (by simp only; omega) (.bool false)
  obtain ⟨w9,hw9⟩ : ∃ w9,(((((((((w1.setCell ⟨w.heap.size + 1,0,none⟩ (.int .i64 0)).setCell ⟨w.heap.size + 1,1,none⟩ (.int .i64 0)).setCell ⟨w.heap.size + 1,2,none⟩ (.int .i64 0)).setCell ⟨w.heap.size + 1,3,none⟩ (.int .i64 0)).setCell ⟨w.heap.size + 1,4,none⟩ (.string ⟨#[]⟩)).setCell ⟨w.heap.size + 1,5,none⟩ (.slice none 0 0)).setCell ⟨w.heap.size + 1,6,none⟩ (.int .i64 0)).setCell ⟨w.heap.size + 1,7,none⟩ (.int .i64 0)).setCell ⟨w.heap.size + 1,8,none⟩ (.bool false)) = w9:=⟨_,rfl⟩
  rw [hw9] at hx9 hq8
  obtain ⟨r0,r1,r2,r3,r4,r5,r6,r7,r8⟩:=bx9 hx9
  have HQ : Hid (Below w.heap.size w w9):=hq8
  clear hq8 hq7 hq6 hq5 hq4 hq3 hq2 hq1 hq0
  go_wp2_with fail
  (try simp only [hw9])
  (try go_wp2_with fail)
  refine bodyPost_ret (v:=.tuple #[.agg #[.int .i64 0,.int .i64 0,.int .i64 0,.int .i64 0,.string ⟨#[]⟩,.slice none 0 0,.int .i64 0,.int .i64 0,.bool false],.int .i64 C]) (by simp [results,Tryz.results42,go_sem,r0,r1,r2,r3,r4,r5,r6,r7,r8]) rfl ?_
  exact ⟨rfl,HQ.out⟩
set_option maxHeartbeats 4000000 in
theorem gInverse_1 {c n p : Int} {s : ByteArray} {l : List (Int × Int)} {tc tn : Int} {on : Bool} {w : World} {a : Option Addr} {m cap : Nat} (h : Rng w a m cap l) (hm : m≤1000000000) (hs : s.size≤2097152) (hok : ownP ⟨c,n,1,p,s,l,tc,tn,on⟩ = 0) :
    Calls Tryz.prog 42 #[opVal ⟨c,n,1,p,s,l,tc,tn,on⟩ (.slice a m cap)] w fun e w'=>∃ a' m' cap',e = .returned (.tuple #[opVal ⟨0,0,2,0,⟨#[]⟩,coveredP ⟨c,n,1,p,s,l,tc,tn,on⟩,0,0,false⟩ (.slice a' m' cap'),.int .i64 0])∧OwnF rngV 2 76 w' (w.heap.size + 2) (.slice a' m' cap') (coveredP ⟨c,n,1,p,s,l,tc,tn,on⟩)∧Below w.heap.size w w':=by
  have HO : Hid (∀ w' : World,Below w.heap.size w w'→Calls Tryz.prog 73 #[opVal ⟨c,n,1,p,s,l,tc,tn,on⟩ (.slice a m cap)] w' fun e w''=>e = .returned (.int .i64 0)∧Below w'.heap.size w' w''):=fun w' hb=>by rw [← hok]; exact gOwn_any (o:=⟨c,n,1,p,s,l,tc,tn,on⟩) (h.below hb) hs
  have hcv : coversV ⟨c,n,1,p,s,l,tc,tn,on⟩ = coveredP ⟨c,n,1,p,s,l,tc,tn,on⟩:=by unfold coversV; rw [if_pos hok]
  have HV : Hid (∀ w' : World,Below w.heap.size w w'→Calls Tryz.prog 37 #[opVal ⟨c,n,1,p,s,l,tc,tn,on⟩ (.slice a m cap)] w' fun e w''=>∃ v,e = .returned v∧OwnF rngV 2 76 w'' w'.heap.size v (coveredP ⟨c,n,1,p,s,l,tc,tn,on⟩)∧Below w'.heap.size w' w''):=fun w' hb=>by rw [← hcv]; exact gCovers_any (o:=⟨c,n,1,p,s,l,tc,tn,on⟩) (h.below hb) hm hs
  generalize coveredP ⟨c,n,1,p,s,l,tc,tn,on⟩ = CV at *
  clear hcv
  clear hok
  have _hm:=hm
  clear h hs hm _hm
  simp only [opVal] at *
  obtain ⟨W1,hW1⟩ : ∃ W1,(w.alloc (Obj.cells #[.int .i64 c,.int .i64 n,.int .i64 1,.int .i64 p,.string s,.slice a m cap,.int .i64 tc,.int .i64 tn,.bool on] 44)).alloc (Obj.cells #[.int .i64 0,.int .i64 0,.int .i64 0,.int .i64 0,.string ⟨#[]⟩,.slice none 0 0,.int .i64 0,.int .i64 0,.bool false] 44) = W1:=⟨_,rfl⟩
  have hX : Below w.heap.size w W1:=by rw [← hW1]; exact ((Below.refl w.heap.size w).alloc (Nat.le_refl _) _).alloc (by simp) _
  have hx0 : W1.heap[w.heap.size]? = some (Obj.cells #[.int .i64 c,.int .i64 n,.int .i64 1,.int .i64 p,.string s,.slice a m cap,.int .i64 tc,.int .i64 tn,.bool on] 44):=by rw [← hW1]; exact (Below.heap_alloc _ _ _ (by simp)).trans (alloc_last _ _ _ rfl)
  have hz0 : W1.heap[w.heap.size + 1]? = some (Obj.cells #[.int .i64 0,.int .i64 0,.int .i64 0,.int .i64 0,.string ⟨#[]⟩,.slice none 0 0,.int .i64 0,.int .i64 0,.bool false] 44):=by rw [← hW1]; exact alloc_last _ _ _ (by simp)
  obtain ⟨y0,y1,y2,y3,y4,y5,y6,y7,y8⟩:=bx9 hx0
  go_enter Tryz.func42,Tryz.ntmps42
  go_wp2_with fail
  (try simp only [hW1])
  (try go_wp2_with fail)
  refine (HO.out _ hX).mono ?_
  rintro e w1 ⟨rfl,hb1⟩
  have hB1:=hX.trans (hb1.mono hX.size)
  have hx1:=(hb1.block _ (Array.getElem?_eq_some_iff.1 hx0).1).trans hx0
  have hz1:=(hb1.block _ (Array.getElem?_eq_some_iff.1 hz0).1).trans hz0
  have hlt1:=(Array.getElem?_eq_some_iff.1 hz1).1
  clear y0 y1 y2 y3 y4 y5 y6 y7 y8 hb1 hx0 hz0 hX hW1 HO
  obtain ⟨y0,y1,y2,y3,y4,y5,y6,y7,y8⟩:=bx9 hx1
  obtain ⟨A1,hA1⟩ : ∃ A1,w1.alloc (Obj.cells #[.int .i64 0,.int .i64 0,.int .i64 0,.int .i64 0,.string ⟨#[]⟩,.slice none 0 0,.int .i64 0,.int .i64 0,.bool false] 44) = A1:=⟨_,rfl⟩
  have hbA : Below w1.heap.size w1 A1:=hA1 ▸ (Below.refl w1.heap.size w1).alloc (Nat.le_refl _) _
  have hxA : A1.heap[w1.heap.size]? = some (Obj.cells #[.int .i64 0,.int .i64 0,.int .i64 0,.int .i64 0,.string ⟨#[]⟩,.slice none 0 0,.int .i64 0,.int .i64 0,.bool false] 44):=hA1 ▸ alloc_last _ _ _ rfl
  obtain ⟨xb,hxb⟩ : ∃ xb,w1.heap.size = xb:=⟨_,rfl⟩
  rw [hxb] at hxA
  have hxbl : w.heap.size + 1 < xb:=by rw [← hxb]; exact hlt1
  obtain ⟨u0,u1,u2,u3,u4,u5,u6,u7,u8⟩:=bx9 hxA
  have zfA2 : A1.frozen? ⟨xb,2,none⟩ = false:=Lib.frozen_of_heap hxA 2
  obtain ⟨A2,hA2⟩ : ∃ X,A1.setCell ⟨xb,2,none⟩ (.int .i64 2) = X:=⟨_,rfl⟩
  have hx2 : A2.heap[xb]? = some (Obj.cells #[.int .i64 0,.int .i64 0,.int .i64 2,.int .i64 0,.string ⟨#[]⟩,.slice none 0 0,.int .i64 0,.int .i64 0,.bool false] 44):=by rw [← hA2]; exact (heap_setCell_same _ xb 2 _ _ (.int .i64 2) hxA).trans (by first | (simp; done) | (simp; rfl))
  have hCA2 : ∀ g,g ≠ xb→A2.heap[g]? = A1.heap[g]?:=fun g hg=>by rw [← hA2]; exact Below.heap_setCell _ _ _ _ (by simp only; exact hg)
  have hSA2 : A2.heap.size = A1.heap.size:=by rw [← hA2]; simp
  have hBA1 : Below w.heap.size w A1:=hB1.trans (hbA.mono hB1.size)
  have hB2 : Below w.heap.size w A2:=by rw [← hA2]; exact hBA1.setCell (p:=⟨xb,2,none⟩) (by simp only; omega) _
  have hzA:=(hbA.block _ hlt1).trans hz1
  have hoA:=(hbA.block _ (by omega)).trans hx1
  obtain ⟨q0,q1,q2,q3,q4,q5,q6,q7,q8⟩:=bx9 hoA
  have hz2:=(hCA2 (w.heap.size + 1) (by omega)).trans hzA
  have ho2:=(hCA2 w.heap.size (by omega)).trans hoA
  have T:=HV.out A2 hB2
  have HK : Hid (∀ w2,Below A2.heap.size A2 w2→w2.heap[xb]? = some (Obj.cells #[.int .i64 0,.int .i64 0,.int .i64 2,.int .i64 0,.string ⟨#[]⟩,.slice none 0 0,.int .i64 0,.int .i64 0,.bool false] 44)∧w2.heap[w.heap.size + 1]? = some (Obj.cells #[.int .i64 0,.int .i64 0,.int .i64 0,.int .i64 0,.string ⟨#[]⟩,.slice none 0 0,.int .i64 0,.int .i64 0,.bool false] 44)∧Below w.heap.size w w2∧w.heap.size + 2≤A2.heap.size):=fun w2 hb=>⟨(hb.block _ (Array.getElem?_eq_some_iff.1 hx2).1).trans hx2,(hb.block _ (Array.getElem?_eq_some_iff.1 hz2).1).trans hz2,hB2.trans (hb.mono hB2.size),by have:=(Array.getElem?_eq_some_iff.1 hx2).1; omega⟩
  obtain ⟨o0,o1,o2,o3,o4,o5,o6,o7,o8⟩:=bx9 ho2
  clear HV hB1 hx1 hz1 hzA hoA hBA1 hbA hx2 hz2 ho2 hB2 hxA hCA2
  go_wp2_with fail
  (try simp only [hxb])
  (try simp only [hA2])
  (try go_wp2_with fail)
  refine T.mono ?_
  rintro e w2 ⟨v,rfl,hown,hb2⟩
  obtain ⟨va,vc,rfl⟩:=hown.shape
  obtain ⟨hx3,hz3,hB3,hsz3⟩:=HK.out w2 hb2
  clear T HK hb2 y0 y1 y2 y3 y4 y5 y6 y7 y8 o0 o1 o2 o3 o4 o5 o6 o7 o8 q0 q1 q2 q3 q4 q5 q6 q7 q8 u0 u1 u2 u3 u4 u5 u6 u7 u8 zfA2 hSA2 hA2 hA1 hxb
  obtain ⟨u0,u1,u2,u3,u4,u5,u6,u7,u8⟩:=bx9 hx3
  have zfA3 : w2.frozen? ⟨xb,5,none⟩ = false:=Lib.frozen_of_heap hx3 5
  obtain ⟨A3,hA3⟩ : ∃ X,w2.setCell ⟨xb,5,none⟩ (.slice va CV.length vc) = X:=⟨_,rfl⟩
  have hx4 : A3.heap[xb]? = some (Obj.cells #[.int .i64 0,.int .i64 0,.int .i64 2,.int .i64 0,.string ⟨#[]⟩,.slice va CV.length vc,.int .i64 0,.int .i64 0,.bool false] 44):=by rw [← hA3]; exact (heap_setCell_same _ xb 5 _ _ (.slice va CV.length vc) hx3).trans (by first | (simp; done) | (simp; rfl))
  have hCA3 : ∀ g,g ≠ xb→A3.heap[g]? = w2.heap[g]?:=fun g hg=>by rw [← hA3]; exact Below.heap_setCell _ _ _ _ (by simp only; exact hg)
  have hSA3 : A3.heap.size = w2.heap.size:=by rw [← hA3]; simp
  have hB4 : Below w.heap.size w A3:=by rw [← hA3]; exact hB3.setCell (p:=⟨xb,5,none⟩) (by simp only; omega) _
  have hz4:=(hCA3 (w.heap.size + 1) (by omega)).trans hz3
  have HOw : Hid (OwnF rngV 2 76 A3 (w.heap.size + 2) (.slice va CV.length vc) CV):=by
    show OwnF _ _ _ _ _ _ _
    rw [← hA3]
    refine ownX (hown.mono hsz3) hx3 _ _
  clear hown hB3 hz3 hx3
  obtain ⟨x0,x1,x2,x3,x4,x5,x6,x7,x8⟩:=bx9 hx4
  obtain ⟨d0,d1,d2,d3,d4,d5,d6,d7,d8⟩:=bx9 hz4
  have dz0 : A3.frozen? ⟨w.heap.size + 1,0,none⟩ = false:=Lib.frozen_of_heap hz4 0
  have dz1 : A3.frozen? ⟨w.heap.size + 1,1,none⟩ = false:=Lib.frozen_of_heap hz4 1
  have dz2 : A3.frozen? ⟨w.heap.size + 1,2,none⟩ = false:=Lib.frozen_of_heap hz4 2
  have dz3 : A3.frozen? ⟨w.heap.size + 1,3,none⟩ = false:=Lib.frozen_of_heap hz4 3
  have dz4 : A3.frozen? ⟨w.heap.size + 1,4,none⟩ = false:=Lib.frozen_of_heap hz4 4
  have dz5 : A3.frozen? ⟨w.heap.size + 1,5,none⟩ = false:=Lib.frozen_of_heap hz4 5
  have dz6 : A3.frozen? ⟨w.heap.size + 1,6,none⟩ = false:=Lib.frozen_of_heap hz4 6
  have dz7 : A3.frozen? ⟨w.heap.size + 1,7,none⟩ = false:=Lib.frozen_of_heap hz4 7
  have dz8 : A3.frozen? ⟨w.heap.size + 1,8,none⟩ = false:=Lib.frozen_of_heap hz4 8
  have hx9:=set9g (v0:=(.int .i64 0)) (v1:=(.int .i64 0)) (v2:=(.int .i64 2)) (v3:=(.int .i64 0)) (v4:=(.string ⟨#[]⟩)) (v5:=(.slice va CV.length vc)) (v6:=(.int .i64 0)) (v7:=(.int .i64 0)) (v8:=(.bool false)) hz4
  have hq0:=hB4.setCell (p:=⟨w.heap.size + 1,0,none⟩) (by simp only; omega) (.int .i64 0)
  have hq1:=hq0.setCell (p:=⟨w.heap.size + 1,1,none⟩) (by simp only; omega) (.int .i64 0)
  have hq2:=hq1.setCell (p:=⟨w.heap.size + 1,2,none⟩) (by simp only; omega) (.int .i64 2)
  have hq3:=hq2.setCell (p:=⟨w.heap.size + 1,3,none⟩) (by simp only; omega) (.int .i64 0)
  have hq4:=hq3.setCell (p:=⟨w.heap.size + 1,4,none⟩) (by simp only; omega) (.string ⟨#[]⟩)
  have hq5:=hq4.setCell (p:=⟨w.heap.size + 1,5,none⟩) (by simp only; omega) (.slice va CV.length vc)
  have hq6:=hq5.setCell (p:=⟨w.heap.size + 1,6,none⟩) (by simp only; omega) (.int .i64 0)
  have hq7:=hq6.setCell (p:=⟨w.heap.size + 1,7,none⟩) (by simp only; omega) (.int .i64 0)
  have hq8:=hq7.setCell (p:=⟨w.heap.size + 1,8,none⟩) (by simp only; omega) (.bool false)
  obtain ⟨w9,hw9⟩ : ∃ w9,(((((((((A3.setCell ⟨w.heap.size + 1,0,none⟩ (.int .i64 0)).setCell ⟨w.heap.size + 1,1,none⟩ (.int .i64 0)).setCell ⟨w.heap.size + 1,2,none⟩ (.int .i64 2)).setCell ⟨w.heap.size + 1,3,none⟩ (.int .i64 0)).setCell ⟨w.heap.size + 1,4,none⟩ (.string ⟨#[]⟩)).setCell ⟨w.heap.size + 1,5,none⟩ (.slice va CV.length vc)).setCell ⟨w.heap.size + 1,6,none⟩ (.int .i64 0)).setCell ⟨w.heap.size + 1,7,none⟩ (.int .i64 0)).setCell ⟨w.heap.size + 1,8,none⟩ (.bool false)) = w9:=⟨_,rfl⟩
  have HO9 : Hid (OwnF rngV 2 76 w9 (w.heap.size + 2) (.slice va CV.length vc) CV):=by
    show OwnF _ _ _ _ _ _ _
    rw [← hw9]
    refine own_set ?_ _ _ _ (by omega)
    refine own_set ?_ _ _ _ (by omega)
    refine own_set ?_ _ _ _ (by omega)
    refine own_set ?_ _ _ _ (by omega)
    refine own_set ?_ _ _ _ (by omega)
    refine own_set ?_ _ _ _ (by omega)
    refine own_set ?_ _ _ _ (by omega)
    refine own_set ?_ _ _ _ (by omega)
    refine own_set ?_ _ _ _ (by omega)
    exact HOw.out
  rw [hw9] at hx9 hq8
  obtain ⟨r0,r1,r2,r3,r4,r5,r6,r7,r8⟩:=bx9 hx9
  have HQ : Hid (Below w.heap.size w w9):=hq8
  clear hq8 hq7 hq6 hq5 hq4 hq3 hq2 hq1 hq0
  go_wp2_with fail
  (try simp only [hw9])
  (try go_wp2_with fail)
  refine bodyPost_ret (v:=.tuple #[.agg #[.int .i64 0,.int .i64 0,.int .i64 2,.int .i64 0,.string ⟨#[]⟩,.slice va CV.length vc,.int .i64 0,.int .i64 0,.bool false],.int .i64 0]) (by simp [results,Tryz.results42,go_sem,r0,r1,r2,r3,r4,r5,r6,r7,r8]) rfl ?_
  exact ⟨va,CV.length,vc,rfl,HO9.out,HQ.out⟩
set_option maxHeartbeats 4000000 in
theorem gInverse_2 {c n p : Int} {s : ByteArray} {l : List (Int × Int)} {tc tn : Int} {on : Bool} {w : World} {a : Option Addr} {m cap : Nat} (h : Rng w a m cap l) (hm : m≤1000000000) (hs : s.size≤2097152) (hok : ownP ⟨c,n,2,p,s,l,tc,tn,on⟩ = 0) :
    Calls Tryz.prog 42 #[opVal ⟨c,n,2,p,s,l,tc,tn,on⟩ (.slice a m cap)] w fun e w'=>∃ a' m' cap',e = .returned (.tuple #[opVal ⟨0,0,3,0,⟨#[]⟩,coveredP ⟨c,n,2,p,s,l,tc,tn,on⟩,0,0,false⟩ (.slice a' m' cap'),.int .i64 0])∧OwnF rngV 2 76 w' (w.heap.size + 2) (.slice a' m' cap') (coveredP ⟨c,n,2,p,s,l,tc,tn,on⟩)∧Below w.heap.size w w':=by
  have HO : Hid (∀ w' : World,Below w.heap.size w w'→Calls Tryz.prog 73 #[opVal ⟨c,n,2,p,s,l,tc,tn,on⟩ (.slice a m cap)] w' fun e w''=>e = .returned (.int .i64 0)∧Below w'.heap.size w' w''):=fun w' hb=>by rw [← hok]; exact gOwn_any (o:=⟨c,n,2,p,s,l,tc,tn,on⟩) (h.below hb) hs
  have hcv : coversV ⟨c,n,2,p,s,l,tc,tn,on⟩ = coveredP ⟨c,n,2,p,s,l,tc,tn,on⟩:=by unfold coversV; rw [if_pos hok]
  have HV : Hid (∀ w' : World,Below w.heap.size w w'→Calls Tryz.prog 37 #[opVal ⟨c,n,2,p,s,l,tc,tn,on⟩ (.slice a m cap)] w' fun e w''=>∃ v,e = .returned v∧OwnF rngV 2 76 w'' w'.heap.size v (coveredP ⟨c,n,2,p,s,l,tc,tn,on⟩)∧Below w'.heap.size w' w''):=fun w' hb=>by rw [← hcv]; exact gCovers_any (o:=⟨c,n,2,p,s,l,tc,tn,on⟩) (h.below hb) hm hs
  generalize coveredP ⟨c,n,2,p,s,l,tc,tn,on⟩ = CV at *
  clear hcv
  clear hok
  have _hm:=hm
  clear h hs hm _hm
  simp only [opVal] at *
  obtain ⟨W1,hW1⟩ : ∃ W1,(w.alloc (Obj.cells #[.int .i64 c,.int .i64 n,.int .i64 2,.int .i64 p,.string s,.slice a m cap,.int .i64 tc,.int .i64 tn,.bool on] 44)).alloc (Obj.cells #[.int .i64 0,.int .i64 0,.int .i64 0,.int .i64 0,.string ⟨#[]⟩,.slice none 0 0,.int .i64 0,.int .i64 0,.bool false] 44) = W1:=⟨_,rfl⟩
  have hX : Below w.heap.size w W1:=by rw [← hW1]; exact ((Below.refl w.heap.size w).alloc (Nat.le_refl _) _).alloc (by simp) _
  have hx0 : W1.heap[w.heap.size]? = some (Obj.cells #[.int .i64 c,.int .i64 n,.int .i64 2,.int .i64 p,.string s,.slice a m cap,.int .i64 tc,.int .i64 tn,.bool on] 44):=by rw [← hW1]; exact (Below.heap_alloc _ _ _ (by simp)).trans (alloc_last _ _ _ rfl)
  have hz0 : W1.heap[w.heap.size + 1]? = some (Obj.cells #[.int .i64 0,.int .i64 0,.int .i64 0,.int .i64 0,.string ⟨#[]⟩,.slice none 0 0,.int .i64 0,.int .i64 0,.bool false] 44):=by rw [← hW1]; exact alloc_last _ _ _ (by simp)
  obtain ⟨y0,y1,y2,y3,y4,y5,y6,y7,y8⟩:=bx9 hx0
  go_enter Tryz.func42,Tryz.ntmps42
  go_wp2_with fail
  (try simp only [hW1])
  (try go_wp2_with fail)
  refine (HO.out _ hX).mono ?_
  rintro e w1 ⟨rfl,hb1⟩
  have hB1:=hX.trans (hb1.mono hX.size)
  have hx1:=(hb1.block _ (Array.getElem?_eq_some_iff.1 hx0).1).trans hx0
  have hz1:=(hb1.block _ (Array.getElem?_eq_some_iff.1 hz0).1).trans hz0
  have hlt1:=(Array.getElem?_eq_some_iff.1 hz1).1
  clear y0 y1 y2 y3 y4 y5 y6 y7 y8 hb1 hx0 hz0 hX hW1 HO
  obtain ⟨y0,y1,y2,y3,y4,y5,y6,y7,y8⟩:=bx9 hx1
  obtain ⟨A1,hA1⟩ : ∃ A1,w1.alloc (Obj.cells #[.int .i64 0,.int .i64 0,.int .i64 0,.int .i64 0,.string ⟨#[]⟩,.slice none 0 0,.int .i64 0,.int .i64 0,.bool false] 44) = A1:=⟨_,rfl⟩
  have hbA : Below w1.heap.size w1 A1:=hA1 ▸ (Below.refl w1.heap.size w1).alloc (Nat.le_refl _) _
  have hxA : A1.heap[w1.heap.size]? = some (Obj.cells #[.int .i64 0,.int .i64 0,.int .i64 0,.int .i64 0,.string ⟨#[]⟩,.slice none 0 0,.int .i64 0,.int .i64 0,.bool false] 44):=hA1 ▸ alloc_last _ _ _ rfl
  obtain ⟨xb,hxb⟩ : ∃ xb,w1.heap.size = xb:=⟨_,rfl⟩
  rw [hxb] at hxA
  have hxbl : w.heap.size + 1 < xb:=by rw [← hxb]; exact hlt1
  obtain ⟨u0,u1,u2,u3,u4,u5,u6,u7,u8⟩:=bx9 hxA
  have zfA2 : A1.frozen? ⟨xb,2,none⟩ = false:=Lib.frozen_of_heap hxA 2
  obtain ⟨A2,hA2⟩ : ∃ X,A1.setCell ⟨xb,2,none⟩ (.int .i64 3) = X:=⟨_,rfl⟩
  have hx2 : A2.heap[xb]? = some (Obj.cells #[.int .i64 0,.int .i64 0,.int .i64 3,.int .i64 0,.string ⟨#[]⟩,.slice none 0 0,.int .i64 0,.int .i64 0,.bool false] 44):=by rw [← hA2]; exact (heap_setCell_same _ xb 2 _ _ (.int .i64 3) hxA).trans (by first | (simp; done) | (simp; rfl))
  have hCA2 : ∀ g,g ≠ xb→A2.heap[g]? = A1.heap[g]?:=fun g hg=>by rw [← hA2]; exact Below.heap_setCell _ _ _ _ (by simp only; exact hg)
  have hSA2 : A2.heap.size = A1.heap.size:=by rw [← hA2]; simp
  have hBA1 : Below w.heap.size w A1:=hB1.trans (hbA.mono hB1.size)
  have hB2 : Below w.heap.size w A2:=by rw [← hA2]; exact hBA1.setCell (p:=⟨xb,2,none⟩) (by simp only; omega) _
  have hzA:=(hbA.block _ hlt1).trans hz1
  have hoA:=(hbA.block _ (by omega)).trans hx1
  obtain ⟨q0,q1,q2,q3,q4,q5,q6,q7,q8⟩:=bx9 hoA
  have hz2:=(hCA2 (w.heap.size + 1) (by omega)).trans hzA
  have ho2:=(hCA2 w.heap.size (by omega)).trans hoA
  have T:=HV.out A2 hB2
  have HK : Hid (∀ w2,Below A2.heap.size A2 w2→w2.heap[xb]? = some (Obj.cells #[.int .i64 0,.int .i64 0,.int .i64 3,.int .i64 0,.string ⟨#[]⟩,.slice none 0 0,.int .i64 0,.int .i64 0,.bool false] 44)∧w2.heap[w.heap.size + 1]? = some (Obj.cells #[.int .i64 0,.int .i64 0,.int .i64 0,.int .i64 0,.string ⟨#[]⟩,.slice none 0 0,.int .i64 0,.int .i64 0,.bool false] 44)∧Below w.heap.size w w2∧w.heap.size + 2≤A2.heap.size):=fun w2 hb=>⟨(hb.block _ (Array.getElem?_eq_some_iff.1 hx2).1).trans hx2,(hb.block _ (Array.getElem?_eq_some_iff.1 hz2).1).trans hz2,hB2.trans (hb.mono hB2.size),by have:=(Array.getElem?_eq_some_iff.1 hx2).1; omega⟩
  obtain ⟨o0,o1,o2,o3,o4,o5,o6,o7,o8⟩:=bx9 ho2
  clear HV hB1 hx1 hz1 hzA hoA hBA1 hbA hx2 hz2 ho2 hB2 hxA hCA2
  go_wp2_with fail
  (try simp only [hxb])
  (try simp only [hA2])
  (try go_wp2_with fail)
  refine T.mono ?_
  rintro e w2 ⟨v,rfl,hown,hb2⟩
  obtain ⟨va,vc,rfl⟩:=hown.shape
  obtain ⟨hx3,hz3,hB3,hsz3⟩:=HK.out w2 hb2
  clear T HK hb2 y0 y1 y2 y3 y4 y5 y6 y7 y8 o0 o1 o2 o3 o4 o5 o6 o7 o8 q0 q1 q2 q3 q4 q5 q6 q7 q8 u0 u1 u2 u3 u4 u5 u6 u7 u8 zfA2 hSA2 hA2 hA1 hxb
  obtain ⟨u0,u1,u2,u3,u4,u5,u6,u7,u8⟩:=bx9 hx3
  have zfA3 : w2.frozen? ⟨xb,5,none⟩ = false:=Lib.frozen_of_heap hx3 5
  obtain ⟨A3,hA3⟩ : ∃ X,w2.setCell ⟨xb,5,none⟩ (.slice va CV.length vc) = X:=⟨_,rfl⟩
  have hx4 : A3.heap[xb]? = some (Obj.cells #[.int .i64 0,.int .i64 0,.int .i64 3,.int .i64 0,.string ⟨#[]⟩,.slice va CV.length vc,.int .i64 0,.int .i64 0,.bool false] 44):=by rw [← hA3]; exact (heap_setCell_same _ xb 5 _ _ (.slice va CV.length vc) hx3).trans (by first | (simp; done) | (simp; rfl))
  have hCA3 : ∀ g,g ≠ xb→A3.heap[g]? = w2.heap[g]?:=fun g hg=>by rw [← hA3]; exact Below.heap_setCell _ _ _ _ (by simp only; exact hg)
  have hSA3 : A3.heap.size = w2.heap.size:=by rw [← hA3]; simp
  have hB4 : Below w.heap.size w A3:=by rw [← hA3]; exact hB3.setCell (p:=⟨xb,5,none⟩) (by simp only; omega) _
  have hz4:=(hCA3 (w.heap.size + 1) (by omega)).trans hz3
  have HOw : Hid (OwnF rngV 2 76 A3 (w.heap.size + 2) (.slice va CV.length vc) CV):=by
    show OwnF _ _ _ _ _ _ _
    rw [← hA3]
    refine ownX (hown.mono hsz3) hx3 _ _
  clear hown hB3 hz3 hx3
  obtain ⟨x0,x1,x2,x3,x4,x5,x6,x7,x8⟩:=bx9 hx4
  obtain ⟨d0,d1,d2,d3,d4,d5,d6,d7,d8⟩:=bx9 hz4
  have dz0 : A3.frozen? ⟨w.heap.size + 1,0,none⟩ = false:=Lib.frozen_of_heap hz4 0
  have dz1 : A3.frozen? ⟨w.heap.size + 1,1,none⟩ = false:=Lib.frozen_of_heap hz4 1
  have dz2 : A3.frozen? ⟨w.heap.size + 1,2,none⟩ = false:=Lib.frozen_of_heap hz4 2
  have dz3 : A3.frozen? ⟨w.heap.size + 1,3,none⟩ = false:=Lib.frozen_of_heap hz4 3
  have dz4 : A3.frozen? ⟨w.heap.size + 1,4,none⟩ = false:=Lib.frozen_of_heap hz4 4
  have dz5 : A3.frozen? ⟨w.heap.size + 1,5,none⟩ = false:=Lib.frozen_of_heap hz4 5
  have dz6 : A3.frozen? ⟨w.heap.size + 1,6,none⟩ = false:=Lib.frozen_of_heap hz4 6
  have dz7 : A3.frozen? ⟨w.heap.size + 1,7,none⟩ = false:=Lib.frozen_of_heap hz4 7
  have dz8 : A3.frozen? ⟨w.heap.size + 1,8,none⟩ = false:=Lib.frozen_of_heap hz4 8
  have hx9:=set9g (v0:=(.int .i64 0)) (v1:=(.int .i64 0)) (v2:=(.int .i64 3)) (v3:=(.int .i64 0)) (v4:=(.string ⟨#[]⟩)) (v5:=(.slice va CV.length vc)) (v6:=(.int .i64 0)) (v7:=(.int .i64 0)) (v8:=(.bool false)) hz4
  have hq0:=hB4.setCell (p:=⟨w.heap.size + 1,0,none⟩) (by simp only; omega) (.int .i64 0)
  have hq1:=hq0.setCell (p:=⟨w.heap.size + 1,1,none⟩) (by simp only; omega) (.int .i64 0)
  have hq2:=hq1.setCell (p:=⟨w.heap.size + 1,2,none⟩) (by simp only; omega) (.int .i64 3)
  have hq3:=hq2.setCell (p:=⟨w.heap.size + 1,3,none⟩) (by simp only; omega) (.int .i64 0)
  have hq4:=hq3.setCell (p:=⟨w.heap.size + 1,4,none⟩) (by simp only; omega) (.string ⟨#[]⟩)
  have hq5:=hq4.setCell (p:=⟨w.heap.size + 1,5,none⟩) (by simp only; omega) (.slice va CV.length vc)
  have hq6:=hq5.setCell (p:=⟨w.heap.size + 1,6,none⟩) (by simp only; omega) (.int .i64 0)
  have hq7:=hq6.setCell (p:=⟨w.heap.size + 1,7,none⟩) (by simp only; omega) (.int .i64 0)
  have hq8:=hq7.setCell (p:=⟨w.heap.size + 1,8,none⟩) (by simp only; omega) (.bool false)
  obtain ⟨w9,hw9⟩ : ∃ w9,(((((((((A3.setCell ⟨w.heap.size + 1,0,none⟩ (.int .i64 0)).setCell ⟨w.heap.size + 1,1,none⟩ (.int .i64 0)).setCell ⟨w.heap.size + 1,2,none⟩ (.int .i64 3)).setCell ⟨w.heap.size + 1,3,none⟩ (.int .i64 0)).setCell ⟨w.heap.size + 1,4,none⟩ (.string ⟨#[]⟩)).setCell ⟨w.heap.size + 1,5,none⟩ (.slice va CV.length vc)).setCell ⟨w.heap.size + 1,6,none⟩ (.int .i64 0)).setCell ⟨w.heap.size + 1,7,none⟩ (.int .i64 0)).setCell ⟨w.heap.size + 1,8,none⟩ (.bool false)) = w9:=⟨_,rfl⟩
  have HO9 : Hid (OwnF rngV 2 76 w9 (w.heap.size + 2) (.slice va CV.length vc) CV):=by
    show OwnF _ _ _ _ _ _ _
    rw [← hw9]
    refine own_set ?_ _ _ _ (by omega)
    refine own_set ?_ _ _ _ (by omega)
    refine own_set ?_ _ _ _ (by omega)
    refine own_set ?_ _ _ _ (by omega)
    refine own_set ?_ _ _ _ (by omega)
    refine own_set ?_ _ _ _ (by omega)
    refine own_set ?_ _ _ _ (by omega)
    refine own_set ?_ _ _ _ (by omega)
    refine own_set ?_ _ _ _ (by omega)
    exact HOw.out
  rw [hw9] at hx9 hq8
  obtain ⟨r0,r1,r2,r3,r4,r5,r6,r7,r8⟩:=bx9 hx9
  have HQ : Hid (Below w.heap.size w w9):=hq8
  clear hq8 hq7 hq6 hq5 hq4 hq3 hq2 hq1 hq0
  go_wp2_with fail
  (try simp only [hw9])
  (try go_wp2_with fail)
  refine bodyPost_ret (v:=.tuple #[.agg #[.int .i64 0,.int .i64 0,.int .i64 3,.int .i64 0,.string ⟨#[]⟩,.slice va CV.length vc,.int .i64 0,.int .i64 0,.bool false],.int .i64 0]) (by simp [results,Tryz.results42,go_sem,r0,r1,r2,r3,r4,r5,r6,r7,r8]) rfl ?_
  exact ⟨va,CV.length,vc,rfl,HO9.out,HQ.out⟩
set_option maxHeartbeats 4000000 in
theorem gInverse_3 {c n p : Int} {s : ByteArray} {l : List (Int × Int)} {tc tn : Int} {on : Bool} {w : World} {a : Option Addr} {m cap : Nat} (h : Rng w a m cap l) (hm : m≤1000000000) (hs : s.size≤2097152) (hok : ownP ⟨c,n,3,p,s,l,tc,tn,on⟩ = 0) :
    Calls Tryz.prog 42 #[opVal ⟨c,n,3,p,s,l,tc,tn,on⟩ (.slice a m cap)] w fun e w'=>∃ a' m' cap',e = .returned (.tuple #[opVal ⟨0,0,2,0,⟨#[]⟩,coveredP ⟨c,n,3,p,s,l,tc,tn,on⟩,0,0,false⟩ (.slice a' m' cap'),.int .i64 0])∧OwnF rngV 2 76 w' (w.heap.size + 2) (.slice a' m' cap') (coveredP ⟨c,n,3,p,s,l,tc,tn,on⟩)∧Below w.heap.size w w':=by
  have HO : Hid (∀ w' : World,Below w.heap.size w w'→Calls Tryz.prog 73 #[opVal ⟨c,n,3,p,s,l,tc,tn,on⟩ (.slice a m cap)] w' fun e w''=>e = .returned (.int .i64 0)∧Below w'.heap.size w' w''):=fun w' hb=>by rw [← hok]; exact gOwn_any (o:=⟨c,n,3,p,s,l,tc,tn,on⟩) (h.below hb) hs
  have hcv : coversV ⟨c,n,3,p,s,l,tc,tn,on⟩ = coveredP ⟨c,n,3,p,s,l,tc,tn,on⟩:=by unfold coversV; rw [if_pos hok]
  have HV : Hid (∀ w' : World,Below w.heap.size w w'→Calls Tryz.prog 37 #[opVal ⟨c,n,3,p,s,l,tc,tn,on⟩ (.slice a m cap)] w' fun e w''=>∃ v,e = .returned v∧OwnF rngV 2 76 w'' w'.heap.size v (coveredP ⟨c,n,3,p,s,l,tc,tn,on⟩)∧Below w'.heap.size w' w''):=fun w' hb=>by rw [← hcv]; exact gCovers_any (o:=⟨c,n,3,p,s,l,tc,tn,on⟩) (h.below hb) hm hs
  generalize coveredP ⟨c,n,3,p,s,l,tc,tn,on⟩ = CV at *
  clear hcv
  clear hok
  have _hm:=hm
  clear h hs hm _hm
  simp only [opVal] at *
  obtain ⟨W1,hW1⟩ : ∃ W1,(w.alloc (Obj.cells #[.int .i64 c,.int .i64 n,.int .i64 3,.int .i64 p,.string s,.slice a m cap,.int .i64 tc,.int .i64 tn,.bool on] 44)).alloc (Obj.cells #[.int .i64 0,.int .i64 0,.int .i64 0,.int .i64 0,.string ⟨#[]⟩,.slice none 0 0,.int .i64 0,.int .i64 0,.bool false] 44) = W1:=⟨_,rfl⟩
  have hX : Below w.heap.size w W1:=by rw [← hW1]; exact ((Below.refl w.heap.size w).alloc (Nat.le_refl _) _).alloc (by simp) _
  have hx0 : W1.heap[w.heap.size]? = some (Obj.cells #[.int .i64 c,.int .i64 n,.int .i64 3,.int .i64 p,.string s,.slice a m cap,.int .i64 tc,.int .i64 tn,.bool on] 44):=by rw [← hW1]; exact (Below.heap_alloc _ _ _ (by simp)).trans (alloc_last _ _ _ rfl)
  have hz0 : W1.heap[w.heap.size + 1]? = some (Obj.cells #[.int .i64 0,.int .i64 0,.int .i64 0,.int .i64 0,.string ⟨#[]⟩,.slice none 0 0,.int .i64 0,.int .i64 0,.bool false] 44):=by rw [← hW1]; exact alloc_last _ _ _ (by simp)
  obtain ⟨y0,y1,y2,y3,y4,y5,y6,y7,y8⟩:=bx9 hx0
  go_enter Tryz.func42,Tryz.ntmps42
  go_wp2_with fail
  (try simp only [hW1])
  (try go_wp2_with fail)
  refine (HO.out _ hX).mono ?_
  rintro e w1 ⟨rfl,hb1⟩
  have hB1:=hX.trans (hb1.mono hX.size)
  have hx1:=(hb1.block _ (Array.getElem?_eq_some_iff.1 hx0).1).trans hx0
  have hz1:=(hb1.block _ (Array.getElem?_eq_some_iff.1 hz0).1).trans hz0
  have hlt1:=(Array.getElem?_eq_some_iff.1 hz1).1
  clear y0 y1 y2 y3 y4 y5 y6 y7 y8 hb1 hx0 hz0 hX hW1 HO
  obtain ⟨y0,y1,y2,y3,y4,y5,y6,y7,y8⟩:=bx9 hx1
  obtain ⟨A1,hA1⟩ : ∃ A1,w1.alloc (Obj.cells #[.int .i64 0,.int .i64 0,.int .i64 0,.int .i64 0,.string ⟨#[]⟩,.slice none 0 0,.int .i64 0,.int .i64 0,.bool false] 44) = A1:=⟨_,rfl⟩
  have hbA : Below w1.heap.size w1 A1:=hA1 ▸ (Below.refl w1.heap.size w1).alloc (Nat.le_refl _) _
  have hxA : A1.heap[w1.heap.size]? = some (Obj.cells #[.int .i64 0,.int .i64 0,.int .i64 0,.int .i64 0,.string ⟨#[]⟩,.slice none 0 0,.int .i64 0,.int .i64 0,.bool false] 44):=hA1 ▸ alloc_last _ _ _ rfl
  obtain ⟨xb,hxb⟩ : ∃ xb,w1.heap.size = xb:=⟨_,rfl⟩
  rw [hxb] at hxA
  have hxbl : w.heap.size + 1 < xb:=by rw [← hxb]; exact hlt1
  obtain ⟨u0,u1,u2,u3,u4,u5,u6,u7,u8⟩:=bx9 hxA
  have zfA2 : A1.frozen? ⟨xb,2,none⟩ = false:=Lib.frozen_of_heap hxA 2
  obtain ⟨A2,hA2⟩ : ∃ X,A1.setCell ⟨xb,2,none⟩ (.int .i64 2) = X:=⟨_,rfl⟩
  have hx2 : A2.heap[xb]? = some (Obj.cells #[.int .i64 0,.int .i64 0,.int .i64 2,.int .i64 0,.string ⟨#[]⟩,.slice none 0 0,.int .i64 0,.int .i64 0,.bool false] 44):=by rw [← hA2]; exact (heap_setCell_same _ xb 2 _ _ (.int .i64 2) hxA).trans (by first | (simp; done) | (simp; rfl))
  have hCA2 : ∀ g,g ≠ xb→A2.heap[g]? = A1.heap[g]?:=fun g hg=>by rw [← hA2]; exact Below.heap_setCell _ _ _ _ (by simp only; exact hg)
  have hSA2 : A2.heap.size = A1.heap.size:=by rw [← hA2]; simp
  have hBA1 : Below w.heap.size w A1:=hB1.trans (hbA.mono hB1.size)
  have hB2 : Below w.heap.size w A2:=by rw [← hA2]; exact hBA1.setCell (p:=⟨xb,2,none⟩) (by simp only; omega) _
  have hzA:=(hbA.block _ hlt1).trans hz1
  have hoA:=(hbA.block _ (by omega)).trans hx1
  obtain ⟨q0,q1,q2,q3,q4,q5,q6,q7,q8⟩:=bx9 hoA
  have hz2:=(hCA2 (w.heap.size + 1) (by omega)).trans hzA
  have ho2:=(hCA2 w.heap.size (by omega)).trans hoA
  have T:=HV.out A2 hB2
  have HK : Hid (∀ w2,Below A2.heap.size A2 w2→w2.heap[xb]? = some (Obj.cells #[.int .i64 0,.int .i64 0,.int .i64 2,.int .i64 0,.string ⟨#[]⟩,.slice none 0 0,.int .i64 0,.int .i64 0,.bool false] 44)∧w2.heap[w.heap.size + 1]? = some (Obj.cells #[.int .i64 0,.int .i64 0,.int .i64 0,.int .i64 0,.string ⟨#[]⟩,.slice none 0 0,.int .i64 0,.int .i64 0,.bool false] 44)∧Below w.heap.size w w2∧w.heap.size + 2≤A2.heap.size):=fun w2 hb=>⟨(hb.block _ (Array.getElem?_eq_some_iff.1 hx2).1).trans hx2,(hb.block _ (Array.getElem?_eq_some_iff.1 hz2).1).trans hz2,hB2.trans (hb.mono hB2.size),by have:=(Array.getElem?_eq_some_iff.1 hx2).1; omega⟩
  obtain ⟨o0,o1,o2,o3,o4,o5,o6,o7,o8⟩:=bx9 ho2
  clear HV hB1 hx1 hz1 hzA hoA hBA1 hbA hx2 hz2 ho2 hB2 hxA hCA2
  go_wp2_with fail
  (try simp only [hxb])
  (try simp only [hA2])
  (try go_wp2_with fail)
  refine T.mono ?_
  rintro e w2 ⟨v,rfl,hown,hb2⟩
  obtain ⟨va,vc,rfl⟩:=hown.shape
  obtain ⟨hx3,hz3,hB3,hsz3⟩:=HK.out w2 hb2
  clear T HK hb2 y0 y1 y2 y3 y4 y5 y6 y7 y8 o0 o1 o2 o3 o4 o5 o6 o7 o8 q0 q1 q2 q3 q4 q5 q6 q7 q8 u0 u1 u2 u3 u4 u5 u6 u7 u8 zfA2 hSA2 hA2 hA1 hxb
  obtain ⟨u0,u1,u2,u3,u4,u5,u6,u7,u8⟩:=bx9 hx3
  have zfA3 : w2.frozen? ⟨xb,5,none⟩ = false:=Lib.frozen_of_heap hx3 5
  obtain ⟨A3,hA3⟩ : ∃ X,w2.setCell ⟨xb,5,none⟩ (.slice va CV.length vc) = X:=⟨_,rfl⟩
  have hx4 : A3.heap[xb]? = some (Obj.cells #[.int .i64 0,.int .i64 0,.int .i64 2,.int .i64 0,.string ⟨#[]⟩,.slice va CV.length vc,.int .i64 0,.int .i64 0,.bool false] 44):=by rw [← hA3]; exact (heap_setCell_same _ xb 5 _ _ (.slice va CV.length vc) hx3).trans (by first | (simp; done) | (simp; rfl))
  have hCA3 : ∀ g,g ≠ xb→A3.heap[g]? = w2.heap[g]?:=fun g hg=>by rw [← hA3]; exact Below.heap_setCell _ _ _ _ (by simp only; exact hg)
  have hSA3 : A3.heap.size = w2.heap.size:=by rw [← hA3]; simp
  have hB4 : Below w.heap.size w A3:=by rw [← hA3]; exact hB3.setCell (p:=⟨xb,5,none⟩) (by simp only; omega) _
  have hz4:=(hCA3 (w.heap.size + 1) (by omega)).trans hz3
  have HOw : Hid (OwnF rngV 2 76 A3 (w.heap.size + 2) (.slice va CV.length vc) CV):=by
    show OwnF _ _ _ _ _ _ _
    rw [← hA3]
    refine ownX (hown.mono hsz3) hx3 _ _
  clear hown hB3 hz3 hx3
  obtain ⟨x0,x1,x2,x3,x4,x5,x6,x7,x8⟩:=bx9 hx4
  obtain ⟨d0,d1,d2,d3,d4,d5,d6,d7,d8⟩:=bx9 hz4
  have dz0 : A3.frozen? ⟨w.heap.size + 1,0,none⟩ = false:=Lib.frozen_of_heap hz4 0
  have dz1 : A3.frozen? ⟨w.heap.size + 1,1,none⟩ = false:=Lib.frozen_of_heap hz4 1
  have dz2 : A3.frozen? ⟨w.heap.size + 1,2,none⟩ = false:=Lib.frozen_of_heap hz4 2
  have dz3 : A3.frozen? ⟨w.heap.size + 1,3,none⟩ = false:=Lib.frozen_of_heap hz4 3
  have dz4 : A3.frozen? ⟨w.heap.size + 1,4,none⟩ = false:=Lib.frozen_of_heap hz4 4
  have dz5 : A3.frozen? ⟨w.heap.size + 1,5,none⟩ = false:=Lib.frozen_of_heap hz4 5
  have dz6 : A3.frozen? ⟨w.heap.size + 1,6,none⟩ = false:=Lib.frozen_of_heap hz4 6
  have dz7 : A3.frozen? ⟨w.heap.size + 1,7,none⟩ = false:=Lib.frozen_of_heap hz4 7
  have dz8 : A3.frozen? ⟨w.heap.size + 1,8,none⟩ = false:=Lib.frozen_of_heap hz4 8
  have hx9:=set9g (v0:=(.int .i64 0)) (v1:=(.int .i64 0)) (v2:=(.int .i64 2)) (v3:=(.int .i64 0)) (v4:=(.string ⟨#[]⟩)) (v5:=(.slice va CV.length vc)) (v6:=(.int .i64 0)) (v7:=(.int .i64 0)) (v8:=(.bool false)) hz4
  have hq0:=hB4.setCell (p:=⟨w.heap.size + 1,0,none⟩) (by simp only; omega) (.int .i64 0)
  have hq1:=hq0.setCell (p:=⟨w.heap.size + 1,1,none⟩) (by simp only; omega) (.int .i64 0)
  have hq2:=hq1.setCell (p:=⟨w.heap.size + 1,2,none⟩) (by simp only; omega) (.int .i64 2)
  have hq3:=hq2.setCell (p:=⟨w.heap.size + 1,3,none⟩) (by simp only; omega) (.int .i64 0)
  have hq4:=hq3.setCell (p:=⟨w.heap.size + 1,4,none⟩) (by simp only; omega) (.string ⟨#[]⟩)
  have hq5:=hq4.setCell (p:=⟨w.heap.size + 1,5,none⟩) (by simp only; omega) (.slice va CV.length vc)
  have hq6:=hq5.setCell (p:=⟨w.heap.size + 1,6,none⟩) (by simp only; omega) (.int .i64 0)
  have hq7:=hq6.setCell (p:=⟨w.heap.size + 1,7,none⟩) (by simp only; omega) (.int .i64 0)
  have hq8:=hq7.setCell (p:=⟨w.heap.size + 1,8,none⟩) (by simp only; omega) (.bool false)
  obtain ⟨w9,hw9⟩ : ∃ w9,(((((((((A3.setCell ⟨w.heap.size + 1,0,none⟩ (.int .i64 0)).setCell ⟨w.heap.size + 1,1,none⟩ (.int .i64 0)).setCell ⟨w.heap.size + 1,2,none⟩ (.int .i64 2)).setCell ⟨w.heap.size + 1,3,none⟩ (.int .i64 0)).setCell ⟨w.heap.size + 1,4,none⟩ (.string ⟨#[]⟩)).setCell ⟨w.heap.size + 1,5,none⟩ (.slice va CV.length vc)).setCell ⟨w.heap.size + 1,6,none⟩ (.int .i64 0)).setCell ⟨w.heap.size + 1,7,none⟩ (.int .i64 0)).setCell ⟨w.heap.size + 1,8,none⟩ (.bool false)) = w9:=⟨_,rfl⟩
  have HO9 : Hid (OwnF rngV 2 76 w9 (w.heap.size + 2) (.slice va CV.length vc) CV):=by
    show OwnF _ _ _ _ _ _ _
    rw [← hw9]
    refine own_set ?_ _ _ _ (by omega)
    refine own_set ?_ _ _ _ (by omega)
    refine own_set ?_ _ _ _ (by omega)
    refine own_set ?_ _ _ _ (by omega)
    refine own_set ?_ _ _ _ (by omega)
    refine own_set ?_ _ _ _ (by omega)
    refine own_set ?_ _ _ _ (by omega)
    refine own_set ?_ _ _ _ (by omega)
    refine own_set ?_ _ _ _ (by omega)
    exact HOw.out
  rw [hw9] at hx9 hq8
  obtain ⟨r0,r1,r2,r3,r4,r5,r6,r7,r8⟩:=bx9 hx9
  have HQ : Hid (Below w.heap.size w w9):=hq8
  clear hq8 hq7 hq6 hq5 hq4 hq3 hq2 hq1 hq0
  go_wp2_with fail
  (try simp only [hw9])
  (try go_wp2_with fail)
  refine bodyPost_ret (v:=.tuple #[.agg #[.int .i64 0,.int .i64 0,.int .i64 2,.int .i64 0,.string ⟨#[]⟩,.slice va CV.length vc,.int .i64 0,.int .i64 0,.bool false],.int .i64 0]) (by simp [results,Tryz.results42,go_sem,r0,r1,r2,r3,r4,r5,r6,r7,r8]) rfl ?_
  exact ⟨va,CV.length,vc,rfl,HO9.out,HQ.out⟩
set_option maxHeartbeats 4000000 in
theorem gInverse_4 {c n p : Int} {s : ByteArray} {l : List (Int × Int)} {tc tn : Int} {on : Bool} {w : World} {a : Option Addr} {m cap : Nat} (h : Rng w a m cap l) (hm : m≤1000000000) (hs : s.size≤2097152) (hok : ownP ⟨c,n,4,p,s,l,tc,tn,on⟩ = 0) :
    Calls Tryz.prog 42 #[opVal ⟨c,n,4,p,s,l,tc,tn,on⟩ (.slice a m cap)] w fun e w'=>e = .returned (.tuple #[opVal ⟨0,0,4,0,⟨#[]⟩,[],tc,tn,!on⟩ (.slice none 0 0),.int .i64 0])∧Below w.heap.size w w':=by
  have HO : Hid (∀ w' : World,Below w.heap.size w w'→Calls Tryz.prog 73 #[opVal ⟨c,n,4,p,s,l,tc,tn,on⟩ (.slice a m cap)] w' fun e w''=>e = .returned (.int .i64 0)∧Below w'.heap.size w' w''):=fun w' hb=>by rw [← hok]; exact gOwn_any (o:=⟨c,n,4,p,s,l,tc,tn,on⟩) (h.below hb) hs
  clear hok
  have _hm:=hm
  clear h hs hm _hm
  simp only [opVal] at *
  obtain ⟨W1,hW1⟩ : ∃ W1,(w.alloc (Obj.cells #[.int .i64 c,.int .i64 n,.int .i64 4,.int .i64 p,.string s,.slice a m cap,.int .i64 tc,.int .i64 tn,.bool on] 44)).alloc (Obj.cells #[.int .i64 0,.int .i64 0,.int .i64 0,.int .i64 0,.string ⟨#[]⟩,.slice none 0 0,.int .i64 0,.int .i64 0,.bool false] 44) = W1:=⟨_,rfl⟩
  have hX : Below w.heap.size w W1:=by rw [← hW1]; exact ((Below.refl w.heap.size w).alloc (Nat.le_refl _) _).alloc (by simp) _
  have hx0 : W1.heap[w.heap.size]? = some (Obj.cells #[.int .i64 c,.int .i64 n,.int .i64 4,.int .i64 p,.string s,.slice a m cap,.int .i64 tc,.int .i64 tn,.bool on] 44):=by rw [← hW1]; exact (Below.heap_alloc _ _ _ (by simp)).trans (alloc_last _ _ _ rfl)
  have hz0 : W1.heap[w.heap.size + 1]? = some (Obj.cells #[.int .i64 0,.int .i64 0,.int .i64 0,.int .i64 0,.string ⟨#[]⟩,.slice none 0 0,.int .i64 0,.int .i64 0,.bool false] 44):=by rw [← hW1]; exact alloc_last _ _ _ (by simp)
  obtain ⟨y0,y1,y2,y3,y4,y5,y6,y7,y8⟩:=bx9 hx0
  go_enter Tryz.func42,Tryz.ntmps42
  go_wp2_with fail
  (try simp only [hW1])
  (try go_wp2_with fail)
  refine (HO.out _ hX).mono ?_
  rintro e w1 ⟨rfl,hb1⟩
  have hB1:=hX.trans (hb1.mono hX.size)
  have hx1:=(hb1.block _ (Array.getElem?_eq_some_iff.1 hx0).1).trans hx0
  have hz1:=(hb1.block _ (Array.getElem?_eq_some_iff.1 hz0).1).trans hz0
  have hlt1:=(Array.getElem?_eq_some_iff.1 hz1).1
  clear y0 y1 y2 y3 y4 y5 y6 y7 y8 hb1 hx0 hz0 hX hW1 HO
  obtain ⟨y0,y1,y2,y3,y4,y5,y6,y7,y8⟩:=bx9 hx1
  obtain ⟨A1,hA1⟩ : ∃ A1,w1.alloc (Obj.cells #[.int .i64 0,.int .i64 0,.int .i64 0,.int .i64 0,.string ⟨#[]⟩,.slice none 0 0,.int .i64 0,.int .i64 0,.bool false] 44) = A1:=⟨_,rfl⟩
  have hbA : Below w1.heap.size w1 A1:=hA1 ▸ (Below.refl w1.heap.size w1).alloc (Nat.le_refl _) _
  have hxA : A1.heap[w1.heap.size]? = some (Obj.cells #[.int .i64 0,.int .i64 0,.int .i64 0,.int .i64 0,.string ⟨#[]⟩,.slice none 0 0,.int .i64 0,.int .i64 0,.bool false] 44):=hA1 ▸ alloc_last _ _ _ rfl
  obtain ⟨xb,hxb⟩ : ∃ xb,w1.heap.size = xb:=⟨_,rfl⟩
  rw [hxb] at hxA
  have hxbl : w.heap.size + 1 < xb:=by rw [← hxb]; exact hlt1
  obtain ⟨u0,u1,u2,u3,u4,u5,u6,u7,u8⟩:=bx9 hxA
  have zfA2 : A1.frozen? ⟨xb,2,none⟩ = false:=Lib.frozen_of_heap hxA 2
  obtain ⟨A2,hA2⟩ : ∃ X,A1.setCell ⟨xb,2,none⟩ (.int .i64 4) = X:=⟨_,rfl⟩
  have hx2 : A2.heap[xb]? = some (Obj.cells #[.int .i64 0,.int .i64 0,.int .i64 4,.int .i64 0,.string ⟨#[]⟩,.slice none 0 0,.int .i64 0,.int .i64 0,.bool false] 44):=by rw [← hA2]; exact (heap_setCell_same _ xb 2 _ _ (.int .i64 4) hxA).trans (by first | (simp; done) | (simp; rfl))
  have hCA2 : ∀ g,g ≠ xb→A2.heap[g]? = A1.heap[g]?:=fun g hg=>by rw [← hA2]; exact Below.heap_setCell _ _ _ _ (by simp only; exact hg)
  have hSA2 : A2.heap.size = A1.heap.size:=by rw [← hA2]; simp
  have hBA1 : Below w.heap.size w A1:=hB1.trans (hbA.mono hB1.size)
  have hB2 : Below w.heap.size w A2:=by rw [← hA2]; exact hBA1.setCell (p:=⟨xb,2,none⟩) (by simp only; omega) _
  have hzA:=(hbA.block _ hlt1).trans hz1
  have hoA:=(hbA.block _ (by omega)).trans hx1
  obtain ⟨q0,q1,q2,q3,q4,q5,q6,q7,q8⟩:=bx9 hoA
  have hz2:=(hCA2 (w.heap.size + 1) (by omega)).trans hzA
  have ho2:=(hCA2 w.heap.size (by omega)).trans hoA
  have zfA3 : A2.frozen? ⟨xb,6,none⟩ = false:=Lib.frozen_of_heap hx2 6
  obtain ⟨A3,hA3⟩ : ∃ X,A2.setCell ⟨xb,6,none⟩ (.int .i64 tc) = X:=⟨_,rfl⟩
  have hx3 : A3.heap[xb]? = some (Obj.cells #[.int .i64 0,.int .i64 0,.int .i64 4,.int .i64 0,.string ⟨#[]⟩,.slice none 0 0,.int .i64 tc,.int .i64 0,.bool false] 44):=by rw [← hA3]; exact (heap_setCell_same _ xb 6 _ _ (.int .i64 tc) hx2).trans (by first | (simp; done) | (simp; rfl))
  have hCA3 : ∀ g,g ≠ xb→A3.heap[g]? = A2.heap[g]?:=fun g hg=>by rw [← hA3]; exact Below.heap_setCell _ _ _ _ (by simp only; exact hg)
  have hSA3 : A3.heap.size = A2.heap.size:=by rw [← hA3]; simp
  have zfA4 : A3.frozen? ⟨xb,7,none⟩ = false:=Lib.frozen_of_heap hx3 7
  obtain ⟨A4,hA4⟩ : ∃ X,A3.setCell ⟨xb,7,none⟩ (.int .i64 tn) = X:=⟨_,rfl⟩
  have hx4 : A4.heap[xb]? = some (Obj.cells #[.int .i64 0,.int .i64 0,.int .i64 4,.int .i64 0,.string ⟨#[]⟩,.slice none 0 0,.int .i64 tc,.int .i64 tn,.bool false] 44):=by rw [← hA4]; exact (heap_setCell_same _ xb 7 _ _ (.int .i64 tn) hx3).trans (by first | (simp; done) | (simp; rfl))
  have hCA4 : ∀ g,g ≠ xb→A4.heap[g]? = A3.heap[g]?:=fun g hg=>by rw [← hA4]; exact Below.heap_setCell _ _ _ _ (by simp only; exact hg)
  have hSA4 : A4.heap.size = A3.heap.size:=by rw [← hA4]; simp
  have zfA5 : A4.frozen? ⟨xb,8,none⟩ = false:=Lib.frozen_of_heap hx4 8
  obtain ⟨A5,hA5⟩ : ∃ X,A4.setCell ⟨xb,8,none⟩ (.bool (!on)) = X:=⟨_,rfl⟩
  have hx5 : A5.heap[xb]? = some (Obj.cells #[.int .i64 0,.int .i64 0,.int .i64 4,.int .i64 0,.string ⟨#[]⟩,.slice none 0 0,.int .i64 tc,.int .i64 tn,.bool (!on)] 44):=by rw [← hA5]; exact (heap_setCell_same _ xb 8 _ _ (.bool (!on)) hx4).trans (by first | (simp; done) | (simp; rfl))
  have hCA5 : ∀ g,g ≠ xb→A5.heap[g]? = A4.heap[g]?:=fun g hg=>by rw [← hA5]; exact Below.heap_setCell _ _ _ _ (by simp only; exact hg)
  have hSA5 : A5.heap.size = A4.heap.size:=by rw [← hA5]; simp
  have hB3 : Below w.heap.size w A3:=by rw [← hA3]; exact hB2.setCell (p:=⟨xb,6,none⟩) (by simp only; omega) _
  have hB4 : Below w.heap.size w A4:=by rw [← hA4]; exact hB3.setCell (p:=⟨xb,7,none⟩) (by simp only; omega) _
  have hB5 : Below w.heap.size w A5:=by rw [← hA5]; exact hB4.setCell (p:=⟨xb,8,none⟩) (by simp only; omega) _
  have hz3:=(hCA3 (w.heap.size + 1) (by omega)).trans hz2
  have hz4:=(hCA4 (w.heap.size + 1) (by omega)).trans hz3
  have hz5:=(hCA5 (w.heap.size + 1) (by omega)).trans hz4
  have ho3:=(hCA3 w.heap.size (by omega)).trans ho2
  have ho4:=(hCA4 w.heap.size (by omega)).trans ho3
  obtain ⟨p0,p1,p2,p3,p4,p5,p6,p7,p8⟩:=bx9 hx2
  obtain ⟨e0,e1,e2,e3,e4,e5,e6,e7,e8⟩:=bx9 hx3
  obtain ⟨f0,f1,f2,f3,f4,f5,f6,f7,f8⟩:=bx9 hx4
  obtain ⟨x0,x1,x2,x3,x4,x5,x6,x7,x8⟩:=bx9 hx5
  obtain ⟨o0,o1,o2,o3,o4,o5,o6,o7,o8⟩:=bx9 ho2
  obtain ⟨g0,g1,g2,g3,g4,g5,g6,g7,g8⟩:=bx9 ho3
  obtain ⟨j0,j1,j2,j3,j4,j5,j6,j7,j8⟩:=bx9 ho4
  clear hB1 hx1 hz1 hzA hoA hBA1 hbA hB2 hB3 hB4 hx2 hx3 hx4 hz2 hz3 hz4 ho2 ho3 ho4 hxA hCA2 hCA3 hCA4 hCA5
  obtain ⟨d0,d1,d2,d3,d4,d5,d6,d7,d8⟩:=bx9 hz5
  have dz0 : A5.frozen? ⟨w.heap.size + 1,0,none⟩ = false:=Lib.frozen_of_heap hz5 0
  have dz1 : A5.frozen? ⟨w.heap.size + 1,1,none⟩ = false:=Lib.frozen_of_heap hz5 1
  have dz2 : A5.frozen? ⟨w.heap.size + 1,2,none⟩ = false:=Lib.frozen_of_heap hz5 2
  have dz3 : A5.frozen? ⟨w.heap.size + 1,3,none⟩ = false:=Lib.frozen_of_heap hz5 3
  have dz4 : A5.frozen? ⟨w.heap.size + 1,4,none⟩ = false:=Lib.frozen_of_heap hz5 4
  have dz5 : A5.frozen? ⟨w.heap.size + 1,5,none⟩ = false:=Lib.frozen_of_heap hz5 5
  have dz6 : A5.frozen? ⟨w.heap.size + 1,6,none⟩ = false:=Lib.frozen_of_heap hz5 6
  have dz7 : A5.frozen? ⟨w.heap.size + 1,7,none⟩ = false:=Lib.frozen_of_heap hz5 7
  have dz8 : A5.frozen? ⟨w.heap.size + 1,8,none⟩ = false:=Lib.frozen_of_heap hz5 8
  have hx9:=set9g (v0:=(.int .i64 0)) (v1:=(.int .i64 0)) (v2:=(.int .i64 4)) (v3:=(.int .i64 0)) (v4:=(.string ⟨#[]⟩)) (v5:=(.slice none 0 0)) (v6:=(.int .i64 tc)) (v7:=(.int .i64 tn)) (v8:=(.bool (!on))) hz5
  have hq0:=hB5.setCell (p:=⟨w.heap.size + 1,0,none⟩) (by simp only; omega) (.int .i64 0)
  have hq1:=hq0.setCell (p:=⟨w.heap.size + 1,1,none⟩) (by simp only; omega) (.int .i64 0)
  have hq2:=hq1.setCell (p:=⟨w.heap.size + 1,2,none⟩) (by simp only; omega) (.int .i64 4)
  have hq3:=hq2.setCell (p:=⟨w.heap.size + 1,3,none⟩) (by simp only; omega) (.int .i64 0)
  have hq4:=hq3.setCell (p:=⟨w.heap.size + 1,4,none⟩) (by simp only; omega) (.string ⟨#[]⟩)
  have hq5:=hq4.setCell (p:=⟨w.heap.size + 1,5,none⟩) (by simp only; omega) (.slice none 0 0)
  have hq6:=hq5.setCell (p:=⟨w.heap.size + 1,6,none⟩) (by simp only; omega) (.int .i64 tc)
  have hq7:=hq6.setCell (p:=⟨w.heap.size + 1,7,none⟩) (by simp only; omega) (.int .i64 tn)
  have hq8:=hq7.setCell (p:=⟨w.heap.size + 1,8,none⟩) (by simp only; omega) (.bool (!on))
  obtain ⟨w9,hw9⟩ : ∃ w9,(((((((((A5.setCell ⟨w.heap.size + 1,0,none⟩ (.int .i64 0)).setCell ⟨w.heap.size + 1,1,none⟩ (.int .i64 0)).setCell ⟨w.heap.size + 1,2,none⟩ (.int .i64 4)).setCell ⟨w.heap.size + 1,3,none⟩ (.int .i64 0)).setCell ⟨w.heap.size + 1,4,none⟩ (.string ⟨#[]⟩)).setCell ⟨w.heap.size + 1,5,none⟩ (.slice none 0 0)).setCell ⟨w.heap.size + 1,6,none⟩ (.int .i64 tc)).setCell ⟨w.heap.size + 1,7,none⟩ (.int .i64 tn)).setCell ⟨w.heap.size + 1,8,none⟩ (.bool (!on))) = w9:=⟨_,rfl⟩
  rw [hw9] at hx9 hq8
  obtain ⟨r0,r1,r2,r3,r4,r5,r6,r7,r8⟩:=bx9 hx9
  have HQ : Hid (Below w.heap.size w w9):=hq8
  clear hq8 hq7 hq6 hq5 hq4 hq3 hq2 hq1 hq0
  go_wp2_with fail
  (try simp only [hw9])
  (try go_wp2_with fail)
  refine bodyPost_ret (v:=.tuple #[.agg #[.int .i64 0,.int .i64 0,.int .i64 4,.int .i64 0,.string ⟨#[]⟩,.slice none 0 0,.int .i64 tc,.int .i64 tn,.bool (!on)],.int .i64 0]) (by simp [results,Tryz.results42,go_sem,r0,r1,r2,r3,r4,r5,r6,r7,r8]) rfl ?_
  exact ⟨rfl,HQ.out⟩
end Go.Proofs.YtijpfbcippijoaaGreatDoor

namespace Go.Proofs.YtijpfbcippijoaaGreatDoor
open Go.RowKit Go.Lib Sp
set_option maxRecDepth 100000
def invV (o : OpV) : OpV:=if ownP o = 0 then inverseP o else zeroOp
theorem rng_own {w : World} {B : Nat} {a : Option Addr} {m c : Nat} {l : List (Int × Int)} (h : OwnF rngV 2 76 w B (.slice a m c) l) : Rng w a m c l:=rng_of_rw (h.rw_ layRo)
theorem rng_none (w : World) : Rng w none 0 0 []:=rng_of_rw (rw_nil w)
theorem opInverse_any {o : OpV} {w : World} {a : Option Addr} {m cap : Nat} (h : Rng w a m cap o.l) (hm : m≤1000000000) (hs : o.s.size≤9223372036854775807) (hw : Bar w) :
    Calls Tryz.prog 41 #[opVal o (.slice a m cap)] w fun e w'=>∃ a' m' c',e = .returned (.tuple #[opVal (invV o) (.slice a' m' c'),.int .i64 (ownP o)])∧Rng w' a' m' c' (invV o).l∧Below w.heap.size w w':=by
  obtain ⟨c,n,k,p,s,l,tc,tn,on⟩:=o
  by_cases hok : ownP ⟨c,n,k,p,s,l,tc,tn,on⟩ = 0
  · have hk:=(right_of hok).kind
    have e1 : invV ⟨c,n,k,p,s,l,tc,tn,on⟩ = inverseP ⟨c,n,k,p,s,l,tc,tn,on⟩:=by unfold invV; rw [if_pos hok]
    rw [e1,hok]
    have hk4 : k = 1 ∨ k = 2 ∨ k = 3 ∨ k = 4:=by simp only at hk; omega
    rcases hk4 with rfl | rfl | rfl | rfl
    · refine (inverse_1 h hm hs hw hok).mono ?_
      rintro e w' ⟨a',m',c',h1,h2,h3⟩
      exact ⟨a',m',c',h1,rng_own h2,h3⟩
    · refine (inverse_2 h hm hs hw hok).mono ?_
      rintro e w' ⟨a',m',c',h1,h2,h3⟩
      exact ⟨a',m',c',h1,rng_own h2,h3⟩
    · refine (inverse_3 h hm hs hw hok).mono ?_
      rintro e w' ⟨a',m',c',h1,h2,h3⟩
      exact ⟨a',m',c',h1,rng_own h2,h3⟩
    · refine (inverse_4 h hm hs hw hok).mono ?_
      rintro e w' ⟨h1,h3⟩
      exact ⟨none,0,0,h1,rng_none _,h3⟩
  · have e1 : invV ⟨c,n,k,p,s,l,tc,tn,on⟩ = zeroOp:=by unfold invV; rw [if_neg hok]
    rw [e1]
    refine (inverse_wrong h hm hs hw hok).mono ?_
    rintro e w' ⟨h1,h3⟩
    exact ⟨none,0,0,h1,rng_none _,h3⟩
theorem gInverse_any {o : OpV} {w : World} {a : Option Addr} {m cap : Nat} (h : Rng w a m cap o.l) (hm : m≤1000000000) (hs : o.s.size≤2097152) :
    Calls Tryz.prog 42 #[opVal o (.slice a m cap)] w fun e w'=>∃ a' m' c',e = .returned (.tuple #[opVal (invV o) (.slice a' m' c'),.int .i64 (ownP o)])∧Rng w' a' m' c' (invV o).l∧Below w.heap.size w w':=by
  obtain ⟨c,n,k,p,s,l,tc,tn,on⟩:=o
  by_cases hok : ownP ⟨c,n,k,p,s,l,tc,tn,on⟩ = 0
  · have hk:=(right_of hok).kind
    have e1 : invV ⟨c,n,k,p,s,l,tc,tn,on⟩ = inverseP ⟨c,n,k,p,s,l,tc,tn,on⟩:=by unfold invV; rw [if_pos hok]
    rw [e1,hok]
    have hk4 : k = 1 ∨ k = 2 ∨ k = 3 ∨ k = 4:=by simp only at hk; omega
    rcases hk4 with rfl | rfl | rfl | rfl
    · refine (gInverse_1 h hm hs hok).mono ?_
      rintro e w' ⟨a',m',c',h1,h2,h3⟩
      exact ⟨a',m',c',h1,rng_own h2,h3⟩
    · refine (gInverse_2 h hm hs hok).mono ?_
      rintro e w' ⟨a',m',c',h1,h2,h3⟩
      exact ⟨a',m',c',h1,rng_own h2,h3⟩
    · refine (gInverse_3 h hm hs hok).mono ?_
      rintro e w' ⟨a',m',c',h1,h2,h3⟩
      exact ⟨a',m',c',h1,rng_own h2,h3⟩
    · refine (gInverse_4 h hm hs hok).mono ?_
      rintro e w' ⟨h1,h3⟩
      exact ⟨none,0,0,h1,rng_none _,h3⟩
  · have e1 : invV ⟨c,n,k,p,s,l,tc,tn,on⟩ = zeroOp:=by unfold invV; rw [if_neg hok]
    rw [e1]
    refine (gInverse_wrong h hm hs hok).mono ?_
    rintro e w' ⟨h1,h3⟩
    exact ⟨none,0,0,h1,rng_none _,h3⟩
end Go.Proofs.YtijpfbcippijoaaGreatDoor
