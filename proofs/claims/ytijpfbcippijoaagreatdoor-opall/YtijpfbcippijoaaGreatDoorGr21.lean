import Derived.Test.YtijpfbcippijoaaGreatDoorGr41
import Derived.Test.YtijpfbcippijoaaGreatDoorGr38
import Derived.Test.YtijpfbcippijoaaGreatDoorOpLR
import Derived.Test.YtijpfbcippijoaaGreatDoorGr33
import Derived.Test.YtijpfbcippijoaaGreatDoorQcAB
namespace Go.Proofs.YtijpfbcippijoaaGreatDoor
open Go.RowKit Go.Lib
set_option maxRecDepth 100000
set_option maxHeartbeats 4000000 in
theorem asks_1 {c n k p tc tn c2 n2 k2 p2 tc2 tn2 tot : Int} {s s2 ln : ByteArray} {on on2 : Bool} {l : List (Int × Int)} {w : World} {a a1 b2 : Option Addr} {m cap cap1 m2 cap2 : Nat} (h1 : Sp.Rng w a1 m cap1 l) (h2 : Sp.Rng w a m cap l) (hs : s.size≤2097152) (hw : Bar w) :
    Calls Tryz.prog 15 #[.agg #[.int .i64 1,.int .i64 c,.int .i64 n,.int .i64 k,.int .i64 p,.string s,.slice a m cap,.int .i64 tc,.int .i64 tn,.bool on,.int .i64 c2,.int .i64 n2,.int .i64 k2,.int .i64 p2,.string s2,.slice b2 m2 cap2,.int .i64 tc2,.int .i64 tn2,.bool on2,.int .i64 tot,.string ln],.agg #[.int .i64 c,.int .i64 n,.int .i64 k,.int .i64 p,.string s,.slice a1 m cap1,.int .i64 tc,.int .i64 tn,.bool on]] w fun e w'=>e = .returned (.bool true)∧Below w.heap.size w w':=by
  go_enter Tryz.func15,Tryz.ntmps15
  go_wp2_with fail
  generalize hW0 : (w.alloc (Obj.cells #[.int .i64 1,.int .i64 c,.int .i64 n,.int .i64 k,.int .i64 p,.string s,.slice a m cap,.int .i64 tc,.int .i64 tn,.bool on,.int .i64 c2,.int .i64 n2,.int .i64 k2,.int .i64 p2,.string s2,.slice b2 m2 cap2,.int .i64 tc2,.int .i64 tn2,.bool on2,.int .i64 tot,.string ln] 46)).alloc (Obj.cells #[.int .i64 c,.int .i64 n,.int .i64 k,.int .i64 p,.string s,.slice a1 m cap1,.int .i64 tc,.int .i64 tn,.bool on] 44) = W0
  have hX : W0.heap[w.heap.size]? = some (Obj.cells #[.int .i64 1,.int .i64 c,.int .i64 n,.int .i64 k,.int .i64 p,.string s,.slice a m cap,.int .i64 tc,.int .i64 tn,.bool on,.int .i64 c2,.int .i64 n2,.int .i64 k2,.int .i64 p2,.string s2,.slice b2 m2 cap2,.int .i64 tc2,.int .i64 tn2,.bool on2,.int .i64 tot,.string ln] 46):=by rw [← hW0]; exact (Below.heap_alloc _ _ _ (by simp)).trans (alloc_last _ _ _ rfl)
  have hZ : W0.heap[w.heap.size + 1]? = some (Obj.cells #[.int .i64 c,.int .i64 n,.int .i64 k,.int .i64 p,.string s,.slice a1 m cap1,.int .i64 tc,.int .i64 tn,.bool on] 44):=by rw [← hW0]; exact alloc_last _ _ _ (by simp)
  have hB0 : Below w.heap.size w W0:=by rw [← hW0]; exact ((Below.refl w.heap.size w).alloc (Nat.le_refl _) _).alloc (by simp) _
  have hlt : w.heap.size + 1 < W0.heap.size:=(Array.getElem?_eq_some_iff.1 hZ).1
  clear hW0
  have g1:=h1.below hB0
  have g2:=h2.below hB0
  have gw:=hw.below hB0
  clear h1 h2 hw
  obtain ⟨x0,x1,x2,x3,x4,x5,x6,x7,x8,x9,x10,x11,x12,x13,x14,x15,x16,x17,x18,x19,x20⟩:=box21 hX
  obtain ⟨y0,y1,y2,y3,y4,y5,y6,y7,y8⟩:=box9 hZ
  have T1:=opCheck_any (o:=⟨c,n,k,p,s,l,tc,tn,on⟩) (total:=tot) g1 (Nat.le_trans hs (by decide)) gw
  simp only [opVal] at T1
  go_wp2_with fail
  refine T1.mono ?_
  rintro e w1 ⟨rfl,hb1⟩
  have hX1:=(hb1.block _ (by omega)).trans hX
  have hB1:=hB0.trans (hb1.mono hB0.size)
  clear T1 x0 x1 x2 x3 x4 x5 x6 x7 x8 x9 x10 x11 x12 x13 x14 x15 x16 x17 x18 x19 x20 y0 y1 y2 y3 y4 y5 y6 y7 y8
  obtain ⟨x0,x1,x2,x3,x4,x5,x6,x7,x8,x9,x10,x11,x12,x13,x14,x15,x16,x17,x18,x19,x20⟩:=box21 hX1
  have T2:=gCheck_any (o:=⟨c,n,k,p,s,l,tc,tn,on⟩) (total:=tot) (g2.below hb1) hs
  simp only [opVal] at T2
  clear hX hX1 hZ
  go_wp2_with fail
  refine T2.mono ?_
  rintro e w2 ⟨rfl,hb2⟩
  have hB2:=hB1.trans (hb2.mono hB1.size)
  clear T2 x0 x1 x2 x3 x4 x5 x6 x7 x8 x9 x10 x11 x12 x13 x14 x15 x16 x17 x18 x19 x20
  generalize opCheck ⟨c,n,k,p,s,l,tc,tn,on⟩ tot = r
  have er : (r == r) = true:=beq_self_eq_true _
  go_wp2_with fail
  go_ret
  exact ⟨rfl,hB2⟩
set_option maxHeartbeats 4000000 in
theorem asks_2 {c n k p tc tn c2 n2 k2 p2 tc2 tn2 tot : Int} {s s2 ln : ByteArray} {on on2 : Bool} {l : List (Int × Int)} {w : World} {a a1 b2 : Option Addr} {m cap cap1 m2 cap2 : Nat} (h1 : Sp.Rng w a1 m cap1 l) (h2 : Sp.Rng w a m cap l) (hs : s.size≤2097152) (hw : Bar w) :
    Calls Tryz.prog 15 #[.agg #[.int .i64 2,.int .i64 c,.int .i64 n,.int .i64 k,.int .i64 p,.string s,.slice a m cap,.int .i64 tc,.int .i64 tn,.bool on,.int .i64 c2,.int .i64 n2,.int .i64 k2,.int .i64 p2,.string s2,.slice b2 m2 cap2,.int .i64 tc2,.int .i64 tn2,.bool on2,.int .i64 tot,.string ln],.agg #[.int .i64 c,.int .i64 n,.int .i64 k,.int .i64 p,.string s,.slice a1 m cap1,.int .i64 tc,.int .i64 tn,.bool on]] w fun e w'=>e = .returned (.bool true)∧Below w.heap.size w w':=by
  go_enter Tryz.func15,Tryz.ntmps15
  go_wp2_with fail
  generalize hW0 : (w.alloc (Obj.cells #[.int .i64 2,.int .i64 c,.int .i64 n,.int .i64 k,.int .i64 p,.string s,.slice a m cap,.int .i64 tc,.int .i64 tn,.bool on,.int .i64 c2,.int .i64 n2,.int .i64 k2,.int .i64 p2,.string s2,.slice b2 m2 cap2,.int .i64 tc2,.int .i64 tn2,.bool on2,.int .i64 tot,.string ln] 46)).alloc (Obj.cells #[.int .i64 c,.int .i64 n,.int .i64 k,.int .i64 p,.string s,.slice a1 m cap1,.int .i64 tc,.int .i64 tn,.bool on] 44) = W0
  have hX : W0.heap[w.heap.size]? = some (Obj.cells #[.int .i64 2,.int .i64 c,.int .i64 n,.int .i64 k,.int .i64 p,.string s,.slice a m cap,.int .i64 tc,.int .i64 tn,.bool on,.int .i64 c2,.int .i64 n2,.int .i64 k2,.int .i64 p2,.string s2,.slice b2 m2 cap2,.int .i64 tc2,.int .i64 tn2,.bool on2,.int .i64 tot,.string ln] 46):=by rw [← hW0]; exact (Below.heap_alloc _ _ _ (by simp)).trans (alloc_last _ _ _ rfl)
  have hZ : W0.heap[w.heap.size + 1]? = some (Obj.cells #[.int .i64 c,.int .i64 n,.int .i64 k,.int .i64 p,.string s,.slice a1 m cap1,.int .i64 tc,.int .i64 tn,.bool on] 44):=by rw [← hW0]; exact alloc_last _ _ _ (by simp)
  have hB0 : Below w.heap.size w W0:=by rw [← hW0]; exact ((Below.refl w.heap.size w).alloc (Nat.le_refl _) _).alloc (by simp) _
  have hlt : w.heap.size + 1 < W0.heap.size:=(Array.getElem?_eq_some_iff.1 hZ).1
  clear hW0
  have g1:=h1.below hB0
  have g2:=h2.below hB0
  have gw:=hw.below hB0
  clear h1 h2 hw
  obtain ⟨x0,x1,x2,x3,x4,x5,x6,x7,x8,x9,x10,x11,x12,x13,x14,x15,x16,x17,x18,x19,x20⟩:=box21 hX
  obtain ⟨y0,y1,y2,y3,y4,y5,y6,y7,y8⟩:=box9 hZ
  have T1:=width_any (o:=⟨c,n,k,p,s,l,tc,tn,on⟩) (v:=.slice a1 m cap1) (Nat.le_trans hs (by decide)) gw
  simp only [opVal] at T1
  go_wp2_with fail
  refine T1.mono ?_
  rintro e w1 ⟨rfl,hb1⟩
  have hX1:=(hb1.block _ (by omega)).trans hX
  have hB1:=hB0.trans (hb1.mono hB0.size)
  clear T1 x0 x1 x2 x3 x4 x5 x6 x7 x8 x9 x10 x11 x12 x13 x14 x15 x16 x17 x18 x19 x20 y0 y1 y2 y3 y4 y5 y6 y7 y8
  obtain ⟨x0,x1,x2,x3,x4,x5,x6,x7,x8,x9,x10,x11,x12,x13,x14,x15,x16,x17,x18,x19,x20⟩:=box21 hX1
  have T2:=gWidth_any (o:=⟨c,n,k,p,s,l,tc,tn,on⟩) (v:=.slice a m cap) hs w1
  simp only [opVal] at T2
  clear hX hX1 hZ
  go_wp2_with fail
  refine T2.mono ?_
  rintro e w2 ⟨rfl,hb2⟩
  have hB2:=hB1.trans (hb2.mono hB1.size)
  clear T2 x0 x1 x2 x3 x4 x5 x6 x7 x8 x9 x10 x11 x12 x13 x14 x15 x16 x17 x18 x19 x20
  generalize widthP ⟨c,n,k,p,s,l,tc,tn,on⟩ = r
  have er : (r == r) = true:=beq_self_eq_true _
  go_wp2_with fail
  go_ret
  exact ⟨rfl,hB2⟩
end Go.Proofs.YtijpfbcippijoaaGreatDoor

namespace Go.Proofs.YtijpfbcippijoaaGreatDoor
open Go.RowKit Go.Lib
set_option maxRecDepth 100000
section
variable {R : List (Int × Int)} {A B : Int} {down : Bool} {q : Nat} {l : List (Int × Int)}
end
end Go.Proofs.YtijpfbcippijoaaGreatDoor

namespace Go.Proofs.YtijpfbcippijoaaGreatDoor
open Go.RowKit Go.Lib
set_option maxRecDepth 100000
end Go.Proofs.YtijpfbcippijoaaGreatDoor

namespace Go.Proofs.YtijpfbcippijoaaGreatDoor
open Go.RowKit Go.Lib
set_option maxRecDepth 100000
theorem Upd.cell {q : Nat} {w w' : World} (hu : Upd q w w') {p : Addr} (h1 : p.block < w.heap.size) (h2 : p.block ≠ q) : w'.cell? p = w.cell? p:=by
  unfold World.cell?
  rw [hu.block p.block h1 h2]
theorem Rw.upd {α : Type} {f : α→List Value} {k : Nat} (hv : ∀ x : α,∃ kd i,(f x)[0]? = some (.int kd i)) {w w' : World} {a : Option Addr} {n cap : Nat} {l : List α} (h : Rw f k w a n cap l) {q : Nat} {t : Tr} (hq : RopeAt w q t) (hu : Upd q w w') : Rw f k w' a n cap l :=
  ⟨h.len,h.room,fun hn=>by
    obtain ⟨g,off,ha,hg,hc⟩:=h.cells hn
    have hl0 : 0 < l.length:=by have:=h.len; omega
    have hx : l[0]? = some l[0]:=List.getElem?_eq_getElem hl0
    obtain ⟨kd,i,hvi⟩:=hv l[0]
    have h0:=hc 0 _ hx 0 _ hvi
    obtain ⟨gr,hb,_⟩:=hq
    have hne : g ≠ q:=by
      rintro rfl
      simp only [World.cell?,hb] at h0
      match off,h0 with
      | 0,h0=>simp at h0
      | j + 1,h0=>simp at h0
    exact ⟨g,off,ha,by have:=hu.size; omega,fun j x hj i v hv=>(hu.cell (p:=⟨g,off + j * k + i,none⟩) hg hne).trans (hc j x hj i v hv)⟩⟩
theorem num_cell (x : Int × Int) : ∃ kd i,(cellV x)[0]? = some (.int kd i):=⟨_,_,rfl⟩
theorem num_piece (x : Int × Int) : ∃ kd i,(pieceV x)[0]? = some (.int kd i):=⟨_,_,rfl⟩
theorem Holds.insertU {w2 : World} {q : Nat} {R : List (Int × Int)} {W : World} (h : Holds w2 q R W) (hq : w2.heap.size≤q) (m : Nat) (hm : m≤R.length) {s : ByteArray} {rs : List Int} (ht : IsText s rs) (hne : rs ≠ []) (hid : Int) (h0 : 0≤hid) (h1 : hid≤1048576) (hn : R.length + rs.length≤1048576) (hBar : Bar w2) :
    Calls Tryz.prog 25 #[.pointer (some ⟨q,0,none⟩),.int .i64 (m : Int),.string s,.int .i64 hid] W fun e W'=>e = .returned (.int .i64 0)∧Holds w2 q (putL R m rs hid) W'∧Upd q W W':=by
  obtain ⟨t,k1,k2,rfl,k3⟩:=h
  exact (insert_any k1 k2 m hm ht hne hid h0 h1 hn (hBar.below k3)).mono fun e W' ⟨he,⟨t',g1,g2,g3⟩,hu⟩=>⟨he,⟨t',g1,g2,g3,Upd.below k3 hu hq k3.size⟩,hu⟩
theorem Holds.bumpU {w2 : World} {q : Nat} {R : List (Int × Int)} {W : World} (h : Holds w2 q R W) (hq : w2.heap.size≤q) {a : Option Addr} {m cap : Nat} {l : List (Int × Int)} (hl : Rw pieceV 2 W a m cap l) (hm : m≤32768) (hs : Srt l) (hb : ∀ x ∈ l,0≤x.1∧x.2≤(R.length : Int)) (d : Int) (hd : d = 1 ∨ d = -1) (hok : ∀ c ∈ bmp l d 0 R,0≤c.2∧c.2≤1048576) :
    Calls Tryz.prog 26 #[.pointer (some ⟨q,0,none⟩),.slice a m cap,.int .i64 d] W fun e W'=>e = .returned (.int .i64 0)∧Holds w2 q (bmp l d 0 R) W'∧Upd q W W':=by
  obtain ⟨t,k1,k2,rfl,k3⟩:=h
  exact (bump_any k1 k2 hl hm hs hb d hd hok).mono fun e W' ⟨he,⟨t',g1,g2,g3⟩,hu⟩=>⟨he,⟨t',g1,g2,g3,Upd.below k3 hu hq k3.size⟩,hu⟩
end Go.Proofs.YtijpfbcippijoaaGreatDoor

namespace Go.Proofs.YtijpfbcippijoaaGreatDoor
open Go.RowKit Go.Lib
set_option maxRecDepth 100000
section
variable {w2 : World} {q : Nat} {R : List (Int × Int)} {W : World}
theorem rw_piece {a : Option Addr} {m cap : Nat} {l : List (Int × Int)} (h : Sp.Rng W a m cap l) : Rw pieceV 2 W a m cap l:=rw_of_rng h
end
end Go.Proofs.YtijpfbcippijoaaGreatDoor

namespace Go.Proofs.YtijpfbcippijoaaGreatDoor
open Go.RowKit Go.Lib
set_option maxRecDepth 100000
theorem fixR_ok (r : Int) : okR (fixR r):=by
  refine okL_okR ?_
  unfold fixR okL
  split <;> omega
theorem madeP_len (zs : List (Int × Int)) : (madeP zs).length≤400:=by
  unfold madeP
  rw [List.length_map,List.length_take]
  omega
theorem madeP_ok (zs : List (Int × Int)) : ∀ c ∈ madeP zs,okR c.1:=fun c hc=>by
  obtain ⟨x,_,rfl⟩:=List.mem_map.1 hc
  exact fixR_ok x.1
theorem madeP_cnt (zs : List (Int × Int)) : ∀ c ∈ madeP zs,0≤c.2∧c.2≤1048576:=fun c hc=>by
  obtain ⟨x,_,rfl⟩:=List.mem_map.1 hc
  simp only [fixC]
  unfold fixH
  split <;> omega
theorem Upd.box {q : Nat} {w w' : World} (h : Upd q w w') {b : Nat} {o : Obj} (hb : w.heap[b]? = some o) (hne : b ≠ q) : w'.heap[b]? = some o:=(h.block b (Array.getElem?_eq_some_iff.1 hb).1 hne).trans hb
theorem Holds.ne {w2 : World} {q : Nat} {R : List (Int × Int)} {W : World} (h : Holds w2 q R W) {b : Nat} (hb : W.heap.size≤b) : b ≠ q:=by
  obtain ⟨t,⟨g,hq,_⟩,_⟩:=h
  have:=(Array.getElem?_eq_some_iff.1 hq).1
  omega
theorem Holds.pieceU {w2 : World} {q : Nat} {R : List (Int × Int)} {W W' : World} (h : Holds w2 q R W) (hu : Upd q W W') {a : Option Addr} {n cap : Nat} {l : List (Int × Int)} (hr : Rw pieceV 2 W a n cap l) : Rw pieceV 2 W' a n cap l:=by
  obtain ⟨t,h1,_⟩:=h
  exact hr.upd num_piece h1 hu
theorem Holds.cellU {w2 : World} {q : Nat} {R : List (Int × Int)} {W W' : World} (h : Holds w2 q R W) (hu : Upd q W W') {a : Option Addr} {n cap : Nat} {l : List (Int × Int)} (hr : Rw cellV 2 W a n cap l) : Rw cellV 2 W' a n cap l:=by
  obtain ⟨t,h1,_⟩:=h
  exact hr.upd num_cell h1 hu
theorem bmp_okR {R : List (Int × Int)} {l : List (Int × Int)} {d : Int} (ho : ∀ c ∈ R,okR c.1) : ∀ c ∈ bmp l d 0 R,okR c.1:=fun c hcm=>by
  obtain ⟨x,hx,e⟩:=bmp_mem hcm
  rcases e with rfl | rfl
  · exact ho _ hx
  · exact ho x hx
end Go.Proofs.YtijpfbcippijoaaGreatDoor
