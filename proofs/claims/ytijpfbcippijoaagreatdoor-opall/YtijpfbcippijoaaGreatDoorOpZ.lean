import Derived.Test.YtijpfbcippijoaaGreatDoorGr124
import Derived.Test.YtijpfbcippijoaaGreatDoorGr145
import Derived.Test.YtijpfbcippijoaaGreatDoorGr110
namespace Go.Proofs.YtijpfbcippijoaaGreatDoor
open Go.RowKit Go.Lib Sp
set_option maxRecDepth 100000
def insW:List UInt8:=[105,110,115]
def hideW:List UInt8:=[104,105,100,101]
def showW:List UInt8:=[115,104,111,119]
def onW:List UInt8:=[111,110]
def offW:List UInt8:=[111,102,102]
def readW (i:Int×Int) (word rest:List UInt8):OpV :=
 if word=insW then ⟨i.1,i.2,1,numP (cut1 rest 32).1,bs (unqL (cut1 rest 32).2.1).1,[],0,0,false⟩
 else if word=hideW then ⟨i.1,i.2,2,0,⟨#[]⟩,rngsP 32769 rest,0,0,false⟩
 else if word=showW then ⟨i.1,i.2,3,0,⟨#[]⟩,rngsP 32769 rest,0,0,false⟩
 else if word=onW∨word=offW then ⟨i.1,i.2,4,0,⟨#[]⟩,[],(idP rest).1,(idP rest).2,decide (word=onW)⟩
 else ⟨i.1,i.2,0,0,⟨#[]⟩,[],0,0,false⟩
def readP (l:List UInt8):OpV:=readW (idP (cut1 l 32).1) (cut1 (cut1 l 32).2.1 32).1 (cut1 (cut1 l 32).2.1 32).2.1
theorem set9 {W:World} {b:Nat} {T:TypeId} {v0 v1 v2 v3 v4 v5 v6 v7 v8:Value} (h:W.heap[b]?=some (.cells #[v0,v1,v2,v3,v4,v5,v6,v7,v8] T)) :
  (((((((((W.setCell ⟨b,0,none⟩ v0).setCell ⟨b,1,none⟩ v1).setCell ⟨b,2,none⟩ v2).setCell ⟨b,3,none⟩ v3).setCell ⟨b,4,none⟩ v4).setCell ⟨b,5,none⟩ v5).setCell ⟨b,6,none⟩ v6).setCell ⟨b,7,none⟩ v7).setCell ⟨b,8,none⟩ v8).heap[b]?=some (.cells #[v0,v1,v2,v3,v4,v5,v6,v7,v8] T):=by
 have h0:=(heap_setCell_same _ b 0 _ _ v0 h).trans (by simp;rfl)
 have h1:=(heap_setCell_same _ b 1 _ _ v1 h0).trans (by simp;rfl)
 have h2:=(heap_setCell_same _ b 2 _ _ v2 h1).trans (by simp;rfl)
 have h3:=(heap_setCell_same _ b 3 _ _ v3 h2).trans (by simp;rfl)
 have h4:=(heap_setCell_same _ b 4 _ _ v4 h3).trans (by simp;rfl)
 have h5:=(heap_setCell_same _ b 5 _ _ v5 h4).trans (by simp;rfl)
 have h6:=(heap_setCell_same _ b 6 _ _ v6 h5).trans (by simp;rfl)
 have h7:=(heap_setCell_same _ b 7 _ _ v7 h6).trans (by simp;rfl)
 have h8:=(heap_setCell_same _ b 8 _ _ v8 h7).trans (by simp;rfl)
 exact h8
theorem rng_set {w:World} {a:Option Addr} {n cap:Nat} {l:List (Int×Int)} (h:Rng w a n cap l) (b i:Nat) (v:Value) (hb:∀ g off,a=some ⟨g,off,none⟩→0<n→g≠b):Rng (w.setCell ⟨b,i,none⟩ v) a n cap l :=
 ⟨h.len,h.room,fun j hj=>by
  obtain ⟨g,off,ha,hg,hc,hd⟩:=h.cells j hj
  have hne:=hb g off ha (by omega)
  refine ⟨g,off,ha,by simpa [World.setCell] using hg,?_,?_⟩
  ·rw [← hc];unfold World.cell?;rw [Below.heap_setCell _ _ _ _ hne]
  ·rw [← hd];unfold World.cell?;rw [Below.heap_setCell _ _ _ _ hne]⟩
set_option maxHeartbeats 2000000 in
theorem readLine_no (l:List UInt8) (hl:l.length≤4294967296) (w:World) (he:Errs w) (h1:(cut1 (cut1 l 32).2.1 32).1≠insW) (h2:(cut1 (cut1 l 32).2.1 32).1≠hideW) (h3:(cut1 (cut1 l 32).2.1 32).1≠showW) (h4:(cut1 (cut1 l 32).2.1 32).1≠onW) (h5:(cut1 (cut1 l 32).2.1 32).1≠offW) :
  Calls Tryz.prog 82 #[.string (bs l)] w fun e w'=>∃ a m cap,e=.returned (opVal (readP l) (.slice a m cap))∧Rng w' a m cap (readP l).l∧(∀ g off,a=some ⟨g,off,none⟩→w.heap.size≤g)∧Below w.heap.size w w':=by
 have HR:Hid (readP l=⟨(idP (cut1 l 32).1).1,(idP (cut1 l 32).1).2,0,0,⟨#[]⟩,[],0,0,false⟩):=by
  show _=_
  unfold readP readW
  rw [if_neg h1,if_neg h2,if_neg h3,if_neg (fun h=>h.elim h4 h5)]
 have hle:=cut1_le l 32
 have hle2:=cut1_le (cut1 l 32).2.1 32
 have H1:Hid (∀ w:World,Calls Tryz.prog 105 #[.string (bs l),.string ⟨#[32]⟩] w fun e w'=>e=.returned (.tuple #[.string (bs (cut1 l 32).1),.string (bs (cut1 l 32).2.1),.bool (cut1 l 32).2.2])∧Below w.heap.size w w'):=fun w=>cutS_any l 32 hl w
 have H2:Hid (∀ w:World,Calls Tryz.prog 105 #[.string (bs (cut1 l 32).2.1),.string ⟨#[32]⟩] w fun e w'=>e=.returned (.tuple #[.string (bs (cut1 (cut1 l 32).2.1 32).1),.string (bs (cut1 (cut1 l 32).2.1 32).2.1),.bool (cut1 (cut1 l 32).2.1 32).2.2])∧Below w.heap.size w w'):=fun w=>cutS_any _ 32 (by omega) w
 have H3:Hid (∀ w':World,Below w.heap.size w w'→Calls Tryz.prog 106 #[.string (bs (cut1 l 32).1)] w' fun e w''=>e=.returned (.agg #[.int .i64 (idP (cut1 l 32).1).1,.int .i64 (idP (cut1 l 32).1).2])∧Below w'.heap.size w' w''):=fun w' hb=>readID_any _ (by omega) w' (he.below hb)
 generalize hwd:(cut1 (cut1 l 32).2.1 32).1=wd at *
 have hlist:(bs wd).toList=wd:=list_of wd
 have t1:((bs wd).toList==[105,110,115])=false:=by rw [hlist];exact beq_eq_false_iff_ne.2 h1
 have t2:((bs wd).toList==[104,105,100,101])=false:=by rw [hlist];exact beq_eq_false_iff_ne.2 h2
 have t3:((bs wd).toList==[115,104,111,119])=false:=by rw [hlist];exact beq_eq_false_iff_ne.2 h3
 have t4:((bs wd).toList==[111,110])=false:=by rw [hlist];exact beq_eq_false_iff_ne.2 h4
 have t5:((bs wd).toList==[111,102,102])=false:=by rw [hlist];exact beq_eq_false_iff_ne.2 h5
 rw [HR.out]
 clear hle hle2 he hl HR h1 h2 h3 h4 h5 hlist hwd
 generalize (idP (cut1 l 32).1).1=c at *
 generalize (idP (cut1 l 32).1).2=n at *
 generalize bs wd=W0 at *
 generalize bs (cut1 (cut1 l 32).2.1 32).2.1=rs at *
 generalize (cut1 (cut1 l 32).2.1 32).2.2=z1 at *
 generalize bs (cut1 l 32).1=p1 at *
 generalize bs (cut1 l 32).2.1=p2 at *
 generalize (cut1 l 32).2.2=z2 at *
 generalize bs l=S at *
 simp only [opVal]
 have hw2:=(Below.refl w.heap.size w).alloc (Nat.le_refl _) (Obj.cells #[.int .i64 0,.int .i64 0,.int .i64 0,.int .i64 0,.string ⟨#[]⟩,.slice none 0 0,.int .i64 0,.int .i64 0,.bool false] 44)
 go_enter Tryz.func82,Tryz.ntmps82
 go_wp2_with fail
 refine (H1.out _).mono ?_
 rintro e w1 ⟨rfl,hb1⟩
 have hB1:=hw2.trans (hb1.mono hw2.size)
 have x1:=(hb1.block w.heap.size (by simp)).trans (alloc_last _ _ _ rfl)
 clear hw2 hb1
 go_wp2_with fail
 refine (H2.out _).mono ?_
 rintro e w2 ⟨rfl,hb2⟩
 have hB2:=hB1.trans (hb2.mono hB1.size)
 have x2:=(hb2.block _ (Array.getElem?_eq_some_iff.1 x1).1).trans x1
 clear hB1 hb2 x1
 go_wp2_with fail
 refine (H3.out _ hB2).mono ?_
 rintro e w3 ⟨rfl,hb3⟩
 have hB3:=hB2.trans (hb3.mono hB2.size)
 have x3:=(hb3.block _ (Array.getElem?_eq_some_iff.1 x2).1).trans x2
 clear hB2 hb3 x2
 obtain ⟨⟨d0,d1,d2,d3,d4,d5,d6,d7,d8⟩,z10,z11,z12,z13,z14,z15,z16,z17,z18⟩:=cf9 x3
 have sB0:=hB3.setCell (p:=⟨w.heap.size,0,none⟩) (Nat.le_refl _) (.int .i64 c)
 have sx0:(w3.setCell ⟨w.heap.size,0,none⟩ (.int .i64 c)).heap[w.heap.size]?=some (.cells #[.int .i64 c,.int .i64 0,.int .i64 0,.int .i64 0,.string ⟨#[]⟩,.slice none 0 0,.int .i64 0,.int .i64 0,.bool false] 44):=(heap_setCell_same _ w.heap.size 0 _ _ _ x3).trans (by simp)
 have sB1:=sB0.setCell (p:=⟨w.heap.size,1,none⟩) (Nat.le_refl _) (.int .i64 n)
 have sx1:((w3.setCell ⟨w.heap.size,0,none⟩ (.int .i64 c)).setCell ⟨w.heap.size,1,none⟩ (.int .i64 n)).heap[w.heap.size]?=some (.cells #[.int .i64 c,.int .i64 n,.int .i64 0,.int .i64 0,.string ⟨#[]⟩,.slice none 0 0,.int .i64 0,.int .i64 0,.bool false] 44):=(heap_setCell_same _ w.heap.size 1 _ _ _ sx0).trans (by simp)
 have hx9:=set9 sx1
 have hq8:=q9 sB1 (b:=w.heap.size) (Nat.le_refl _) (.int .i64 c) (.int .i64 n) (.int .i64 0) (.int .i64 0) (.string ⟨#[]⟩) (.slice none 0 0) (.int .i64 0) (.int .i64 0) (.bool false)
 obtain ⟨w9,hw9⟩:=exW hx9
 rw [hw9] at hx9 hq8
 obtain ⟨r0,r1,r2,r3,r4,r5,r6,r7,r8⟩:=cl9 hx9
 clear sx1 sx0 sB1 sB0
 go_wp2_with fail
 try rw [hw9]
 refine bodyPost_ret (v:=.agg #[.int .i64 c,.int .i64 n,.int .i64 0,.int .i64 0,.string ⟨#[]⟩,.slice none 0 0,.int .i64 0,.int .i64 0,.bool false]) (by simp [results,Tryz.results82,go_sem,r0,r1,r2,r3,r4,r5,r6,r7,r8]) rfl ⟨none,0,0,rfl,rng_nil _,(fun g off h=>by cases h),hq8⟩
set_option maxHeartbeats 2000000 in
theorem readLine_ins (l:List UInt8) (hl:l.length≤4294967296) (w:World) (he:Errs w) (hd:Deb w) (h0:(cut1 (cut1 l 32).2.1 32).1=insW) :
  Calls Tryz.prog 82 #[.string (bs l)] w fun e w'=>∃ a m cap,e=.returned (opVal (readP l) (.slice a m cap))∧Rng w' a m cap (readP l).l∧(∀ g off,a=some ⟨g,off,none⟩→w.heap.size≤g)∧Below w.heap.size w w':=by
 have HR:Hid (readP l=⟨(idP (cut1 l 32).1).1,(idP (cut1 l 32).1).2,1,numP (cut1 (cut1 (cut1 l 32).2.1 32).2.1 32).1,bs (unqL (cut1 (cut1 (cut1 l 32).2.1 32).2.1 32).2.1).1,[],0,0,false⟩):=by
  show _=_
  unfold readP readW
  rw [h0]
  rw [if_pos rfl]
 have hle:=cut1_le l 32
 have hle2:=cut1_le (cut1 l 32).2.1 32
 have H1:Hid (∀ w:World,Calls Tryz.prog 105 #[.string (bs l),.string ⟨#[32]⟩] w fun e w'=>e=.returned (.tuple #[.string (bs (cut1 l 32).1),.string (bs (cut1 l 32).2.1),.bool (cut1 l 32).2.2])∧Below w.heap.size w w'):=fun w=>cutS_any l 32 hl w
 have H2:Hid (∀ w:World,Calls Tryz.prog 105 #[.string (bs (cut1 l 32).2.1),.string ⟨#[32]⟩] w fun e w'=>e=.returned (.tuple #[.string (bs (cut1 (cut1 l 32).2.1 32).1),.string (bs (cut1 (cut1 l 32).2.1 32).2.1),.bool (cut1 (cut1 l 32).2.1 32).2.2])∧Below w.heap.size w w'):=fun w=>cutS_any _ 32 (by omega) w
 have H3:Hid (∀ w':World,Below w.heap.size w w'→Calls Tryz.prog 106 #[.string (bs (cut1 l 32).1)] w' fun e w''=>e=.returned (.agg #[.int .i64 (idP (cut1 l 32).1).1,.int .i64 (idP (cut1 l 32).1).2])∧Below w'.heap.size w' w''):=fun w' hb=>readID_any _ (by omega) w' (he.below hb)
 have hle3:=cut1_le (cut1 (cut1 l 32).2.1 32).2.1 32
 have H4:Hid (∀ w:World,Calls Tryz.prog 105 #[.string (bs (cut1 (cut1 l 32).2.1 32).2.1),.string ⟨#[32]⟩] w fun e w'=>e=.returned (.tuple #[.string (bs (cut1 (cut1 (cut1 l 32).2.1 32).2.1 32).1),.string (bs (cut1 (cut1 (cut1 l 32).2.1 32).2.1 32).2.1),.bool (cut1 (cut1 (cut1 l 32).2.1 32).2.1 32).2.2])∧Below w.heap.size w w'):=fun w=>cutS_any _ 32 (by omega) w
 have H5:Hid (∀ w':World,Below w.heap.size w w'→Calls Tryz.prog 107 #[.string (bs (cut1 (cut1 (cut1 l 32).2.1 32).2.1 32).1)] w' fun e w''=>e=.returned (.int .i64 (numP (cut1 (cut1 (cut1 l 32).2.1 32).2.1 32).1))∧Below w'.heap.size w' w''):=fun w' hb=>readNumber_any _ (by omega) w' (he.below hb)
 have H6:Hid (∀ w':World,Below w.heap.size w w'→Calls Tryz.prog 108 #[.string (bs (cut1 (cut1 (cut1 l 32).2.1 32).2.1 32).2.1)] w' fun e w''=>e=.returned (.tuple #[.string (bs (unqL (cut1 (cut1 (cut1 l 32).2.1 32).2.1 32).2.1).1),.int .i64 (unqL (cut1 (cut1 (cut1 l 32).2.1 32).2.1 32).2.1).2.1,.int .i64 (unqL (cut1 (cut1 (cut1 l 32).2.1 32).2.1 32).2.1).2.2])∧Below w'.heap.size w' w''):=fun w' hb=>by
  have:=unquote_any (bs (cut1 (cut1 (cut1 l 32).2.1 32).2.1 32).2.1) (by rw [bs_size];omega) w' (hd.below hb) (he.below hb)
  rw [bs_list] at this
  exact this
 generalize hwd:(cut1 (cut1 l 32).2.1 32).1=wd at *
 have hlist:(bs wd).toList=insW:=(list_of wd).trans h0
 have t1:((bs wd).toList==[105,110,115])=true:=by rw [hlist];rfl
 rw [HR.out]
 clear hle hle2 he hl HR h0 hlist hwd hle3 hd
 generalize (idP (cut1 l 32).1).1=c at *
 generalize (idP (cut1 l 32).1).2=n at *
 generalize bs wd=W0 at *
 generalize numP (cut1 (cut1 (cut1 l 32).2.1 32).2.1 32).1=p at *
 generalize bs (unqL (cut1 (cut1 (cut1 l 32).2.1 32).2.1 32).2.1).1=s at *
 generalize (unqL (cut1 (cut1 (cut1 l 32).2.1 32).2.1 32).2.1).2.1=q1 at *
 generalize (unqL (cut1 (cut1 (cut1 l 32).2.1 32).2.1 32).2.1).2.2=q2 at *
 generalize bs (cut1 (cut1 (cut1 l 32).2.1 32).2.1 32).1=q3 at *
 generalize bs (cut1 (cut1 (cut1 l 32).2.1 32).2.1 32).2.1=q4 at *
 generalize (cut1 (cut1 (cut1 l 32).2.1 32).2.1 32).2.2=q5 at *
 generalize bs (cut1 (cut1 l 32).2.1 32).2.1=rs at *
 generalize (cut1 (cut1 l 32).2.1 32).2.2=z1 at *
 generalize bs (cut1 l 32).1=p1 at *
 generalize bs (cut1 l 32).2.1=p2 at *
 generalize (cut1 l 32).2.2=z2 at *
 generalize bs l=S at *
 simp only [opVal]
 have hw2:=(Below.refl w.heap.size w).alloc (Nat.le_refl _) (Obj.cells #[.int .i64 0,.int .i64 0,.int .i64 0,.int .i64 0,.string ⟨#[]⟩,.slice none 0 0,.int .i64 0,.int .i64 0,.bool false] 44)
 go_enter Tryz.func82,Tryz.ntmps82
 go_wp2_with fail
 refine (H1.out _).mono ?_
 rintro e w1 ⟨rfl,hb1⟩
 have hB1:=hw2.trans (hb1.mono hw2.size)
 have x1:=(hb1.block w.heap.size (by simp)).trans (alloc_last _ _ _ rfl)
 clear hw2 hb1
 go_wp2_with fail
 refine (H2.out _).mono ?_
 rintro e w2 ⟨rfl,hb2⟩
 have hB2:=hB1.trans (hb2.mono hB1.size)
 have x2:=(hb2.block _ (Array.getElem?_eq_some_iff.1 x1).1).trans x1
 clear hB1 hb2 x1
 go_wp2_with fail
 refine (H3.out _ hB2).mono ?_
 rintro e w3 ⟨rfl,hb3⟩
 have hB3:=hB2.trans (hb3.mono hB2.size)
 have x3:=(hb3.block _ (Array.getElem?_eq_some_iff.1 x2).1).trans x2
 clear hB2 hb3 x2
 obtain ⟨⟨d0,d1,d2,d3,d4,d5,d6,d7,d8⟩,z10,z11,z12,z13,z14,z15,z16,z17,z18⟩:=cf9 x3
 go_wp2_with fail
 have sB0:=hB3.setCell (p:=⟨w.heap.size,0,none⟩) (Nat.le_refl _) (.int .i64 c)
 have sx0:(w3.setCell ⟨w.heap.size,0,none⟩ (.int .i64 c)).heap[w.heap.size]?=some (.cells #[.int .i64 c,.int .i64 0,.int .i64 0,.int .i64 0,.string ⟨#[]⟩,.slice none 0 0,.int .i64 0,.int .i64 0,.bool false] 44):=(heap_setCell_same _ w.heap.size 0 _ _ _ x3).trans (by simp)
 have sB1:=sB0.setCell (p:=⟨w.heap.size,1,none⟩) (Nat.le_refl _) (.int .i64 n)
 have sx1:((w3.setCell ⟨w.heap.size,0,none⟩ (.int .i64 c)).setCell ⟨w.heap.size,1,none⟩ (.int .i64 n)).heap[w.heap.size]?=some (.cells #[.int .i64 c,.int .i64 n,.int .i64 0,.int .i64 0,.string ⟨#[]⟩,.slice none 0 0,.int .i64 0,.int .i64 0,.bool false] 44):=(heap_setCell_same _ w.heap.size 1 _ _ _ sx0).trans (by simp)
 refine (H4.out _).mono ?_
 rintro e w4 ⟨rfl,hb4⟩
 have hB4:=sB1.trans (hb4.mono sB1.size)
 have x4:=(hb4.block _ (Array.getElem?_eq_some_iff.1 sx1).1).trans sx1
 clear sx1 sx0 sB1 sB0 d0 d1 d2 d3 d4 d5 d6 d7 d8 z10 z11 z12 z13 z14 z15 z16 z17 z18  hb4 x3 hB3
 obtain ⟨⟨d0,d1,d2,d3,d4,d5,d6,d7,d8⟩,z10,z11,z12,z13,z14,z15,z16,z17,z18⟩:=cf9 x4
 go_wp2_with fail
 refine (H5.out _ hB4).mono ?_
 rintro e w5 ⟨rfl,hb5⟩
 have hB5:=hB4.trans (hb5.mono hB4.size)
 have x5:=(hb5.block _ (Array.getElem?_eq_some_iff.1 x4).1).trans x4
 clear   d0 d1 d2 d3 d4 d5 d6 d7 d8 z10 z11 z12 z13 z14 z15 z16 z17 z18  hb5 x4 hB4
 obtain ⟨⟨d0,d1,d2,d3,d4,d5,d6,d7,d8⟩,z10,z11,z12,z13,z14,z15,z16,z17,z18⟩:=cf9 x5
 go_wp2_with fail
 have sB0:=hB5.setCell (p:=⟨w.heap.size,2,none⟩) (Nat.le_refl _) (.int .i64 1)
 have sx0:(w5.setCell ⟨w.heap.size,2,none⟩ (.int .i64 1)).heap[w.heap.size]?=some (.cells #[.int .i64 c,.int .i64 n,.int .i64 1,.int .i64 0,.string ⟨#[]⟩,.slice none 0 0,.int .i64 0,.int .i64 0,.bool false] 44):=(heap_setCell_same _ w.heap.size 2 _ _ _ x5).trans (by simp)
 have sB1:=sB0.setCell (p:=⟨w.heap.size,3,none⟩) (Nat.le_refl _) (.int .i64 p)
 have sx1:((w5.setCell ⟨w.heap.size,2,none⟩ (.int .i64 1)).setCell ⟨w.heap.size,3,none⟩ (.int .i64 p)).heap[w.heap.size]?=some (.cells #[.int .i64 c,.int .i64 n,.int .i64 1,.int .i64 p,.string ⟨#[]⟩,.slice none 0 0,.int .i64 0,.int .i64 0,.bool false] 44):=(heap_setCell_same _ w.heap.size 3 _ _ _ sx0).trans (by simp)
 refine (H6.out _ sB1).mono ?_
 rintro e w6 ⟨rfl,hb6⟩
 have hB6:=sB1.trans (hb6.mono sB1.size)
 have x6:=(hb6.block _ (Array.getElem?_eq_some_iff.1 sx1).1).trans sx1
 clear sx1 sx0 sB1 sB0 d0 d1 d2 d3 d4 d5 d6 d7 d8 z10 z11 z12 z13 z14 z15 z16 z17 z18  hb6 x5 hB5
 obtain ⟨⟨d0,d1,d2,d3,d4,d5,d6,d7,d8⟩,z10,z11,z12,z13,z14,z15,z16,z17,z18⟩:=cf9 x6
 have sB0:=hB6.setCell (p:=⟨w.heap.size,4,none⟩) (Nat.le_refl _) (.string s)
 have sx0:(w6.setCell ⟨w.heap.size,4,none⟩ (.string s)).heap[w.heap.size]?=some (.cells #[.int .i64 c,.int .i64 n,.int .i64 1,.int .i64 p,.string s,.slice none 0 0,.int .i64 0,.int .i64 0,.bool false] 44):=(heap_setCell_same _ w.heap.size 4 _ _ _ x6).trans (by simp)
 have hx9:=set9 sx0
 have hq8:=q9 sB0 (b:=w.heap.size) (Nat.le_refl _) (.int .i64 c) (.int .i64 n) (.int .i64 1) (.int .i64 p) (.string s) (.slice none 0 0) (.int .i64 0) (.int .i64 0) (.bool false)
 obtain ⟨w9,hw9⟩:=exW hx9
 rw [hw9] at hx9 hq8
 obtain ⟨r0,r1,r2,r3,r4,r5,r6,r7,r8⟩:=cl9 hx9
 clear sx0 sB0
 go_wp2_with fail
 try rw [hw9]
 refine bodyPost_ret (v:=.agg #[.int .i64 c,.int .i64 n,.int .i64 1,.int .i64 p,.string s,.slice none 0 0,.int .i64 0,.int .i64 0,.bool false]) (by simp [results,Tryz.results82,go_sem,r0,r1,r2,r3,r4,r5,r6,r7,r8]) rfl ⟨none,0,0,rfl,rng_nil _,(fun g off h=>by cases h),hq8⟩
set_option maxHeartbeats 2000000 in
theorem readLine_hide (l:List UInt8) (hl:l.length≤4294967296) (w:World) (he:Errs w) (h0:(cut1 (cut1 l 32).2.1 32).1=hideW) :
  Calls Tryz.prog 82 #[.string (bs l)] w fun e w'=>∃ a m cap,e=.returned (opVal (readP l) (.slice a m cap))∧Rng w' a m cap (readP l).l∧(∀ g off,a=some ⟨g,off,none⟩→w.heap.size≤g)∧Below w.heap.size w w':=by
 have HR:Hid (readP l=⟨(idP (cut1 l 32).1).1,(idP (cut1 l 32).1).2,2,0,⟨#[]⟩,rngsP 32769 (cut1 (cut1 l 32).2.1 32).2.1,0,0,false⟩):=by
  show _=_
  unfold readP readW
  rw [h0]
  rw [if_neg (by decide),if_pos rfl]
 have hle:=cut1_le l 32
 have hle2:=cut1_le (cut1 l 32).2.1 32
 have H1:Hid (∀ w:World,Calls Tryz.prog 105 #[.string (bs l),.string ⟨#[32]⟩] w fun e w'=>e=.returned (.tuple #[.string (bs (cut1 l 32).1),.string (bs (cut1 l 32).2.1),.bool (cut1 l 32).2.2])∧Below w.heap.size w w'):=fun w=>cutS_any l 32 hl w
 have H2:Hid (∀ w:World,Calls Tryz.prog 105 #[.string (bs (cut1 l 32).2.1),.string ⟨#[32]⟩] w fun e w'=>e=.returned (.tuple #[.string (bs (cut1 (cut1 l 32).2.1 32).1),.string (bs (cut1 (cut1 l 32).2.1 32).2.1),.bool (cut1 (cut1 l 32).2.1 32).2.2])∧Below w.heap.size w w'):=fun w=>cutS_any _ 32 (by omega) w
 have H3:Hid (∀ w':World,Below w.heap.size w w'→Calls Tryz.prog 106 #[.string (bs (cut1 l 32).1)] w' fun e w''=>e=.returned (.agg #[.int .i64 (idP (cut1 l 32).1).1,.int .i64 (idP (cut1 l 32).1).2])∧Below w'.heap.size w' w''):=fun w' hb=>readID_any _ (by omega) w' (he.below hb)
 have H4:Hid (∀ w':World,Below w.heap.size w w'→Calls Tryz.prog 109 #[.string (bs (cut1 (cut1 l 32).2.1 32).2.1)] w' fun e w''=>∃ a m cap,e=.returned (.slice a m cap)∧Rng w'' a m cap (rngsP 32769 (cut1 (cut1 l 32).2.1 32).2.1)∧(∀ g off,a=some ⟨g,off,none⟩→w'.heap.size≤g)∧Below w'.heap.size w' w''):=fun w' hb=>readRanges_any _ (by omega) w' (he.below hb)
 generalize hwd:(cut1 (cut1 l 32).2.1 32).1=wd at *
 have hlist:(bs wd).toList=hideW:=(list_of wd).trans h0
 have t1:((bs wd).toList==[105,110,115])=false:=by rw [hlist];rfl
 have t2:((bs wd).toList==[104,105,100,101])=true:=by rw [hlist];rfl
 rw [HR.out]
 clear hle hle2 he hl HR h0 hlist hwd
 generalize (idP (cut1 l 32).1).1=c at *
 generalize (idP (cut1 l 32).1).2=n at *
 generalize bs wd=W0 at *
 generalize rngsP 32769 (cut1 (cut1 l 32).2.1 32).2.1=R at *
 generalize bs (cut1 (cut1 l 32).2.1 32).2.1=rs at *
 generalize (cut1 (cut1 l 32).2.1 32).2.2=z1 at *
 generalize bs (cut1 l 32).1=p1 at *
 generalize bs (cut1 l 32).2.1=p2 at *
 generalize (cut1 l 32).2.2=z2 at *
 generalize bs l=S at *
 simp only [opVal]
 have hw2:=(Below.refl w.heap.size w).alloc (Nat.le_refl _) (Obj.cells #[.int .i64 0,.int .i64 0,.int .i64 0,.int .i64 0,.string ⟨#[]⟩,.slice none 0 0,.int .i64 0,.int .i64 0,.bool false] 44)
 go_enter Tryz.func82,Tryz.ntmps82
 go_wp2_with fail
 refine (H1.out _).mono ?_
 rintro e w1 ⟨rfl,hb1⟩
 have hB1:=hw2.trans (hb1.mono hw2.size)
 have x1:=(hb1.block w.heap.size (by simp)).trans (alloc_last _ _ _ rfl)
 clear hw2 hb1
 go_wp2_with fail
 refine (H2.out _).mono ?_
 rintro e w2 ⟨rfl,hb2⟩
 have hB2:=hB1.trans (hb2.mono hB1.size)
 have x2:=(hb2.block _ (Array.getElem?_eq_some_iff.1 x1).1).trans x1
 clear hB1 hb2 x1
 go_wp2_with fail
 refine (H3.out _ hB2).mono ?_
 rintro e w3 ⟨rfl,hb3⟩
 have hB3:=hB2.trans (hb3.mono hB2.size)
 have x3:=(hb3.block _ (Array.getElem?_eq_some_iff.1 x2).1).trans x2
 clear hB2 hb3 x2
 obtain ⟨⟨d0,d1,d2,d3,d4,d5,d6,d7,d8⟩,z10,z11,z12,z13,z14,z15,z16,z17,z18⟩:=cf9 x3
 go_wp2_with fail
 have sB0:=hB3.setCell (p:=⟨w.heap.size,0,none⟩) (Nat.le_refl _) (.int .i64 c)
 have sx0:(w3.setCell ⟨w.heap.size,0,none⟩ (.int .i64 c)).heap[w.heap.size]?=some (.cells #[.int .i64 c,.int .i64 0,.int .i64 0,.int .i64 0,.string ⟨#[]⟩,.slice none 0 0,.int .i64 0,.int .i64 0,.bool false] 44):=(heap_setCell_same _ w.heap.size 0 _ _ _ x3).trans (by simp)
 have sB1:=sB0.setCell (p:=⟨w.heap.size,1,none⟩) (Nat.le_refl _) (.int .i64 n)
 have sx1:((w3.setCell ⟨w.heap.size,0,none⟩ (.int .i64 c)).setCell ⟨w.heap.size,1,none⟩ (.int .i64 n)).heap[w.heap.size]?=some (.cells #[.int .i64 c,.int .i64 n,.int .i64 0,.int .i64 0,.string ⟨#[]⟩,.slice none 0 0,.int .i64 0,.int .i64 0,.bool false] 44):=(heap_setCell_same _ w.heap.size 1 _ _ _ sx0).trans (by simp)
 refine (H4.out _ sB1).mono ?_
 rintro e w4 ⟨a,m,cap,rfl,hR,hAt,hb4⟩
 have hRb:Hid (∀ g off,a=some ⟨g,off,none⟩→0<m→g≠w.heap.size):=fun g off ha _=>by have h1:=hAt g off ha;have h2:=(Array.getElem?_eq_some_iff.1 sx1).1;omega
 have HAt:Hid (∀ g off,a=some ⟨g,off,none⟩→w.heap.size≤g):=fun g off ha=>by have h1:=hAt g off ha;have h2:=(Array.getElem?_eq_some_iff.1 sx1).1;omega
 clear hAt
 have hB4:=sB1.trans (hb4.mono sB1.size)
 have x4:=(hb4.block _ (Array.getElem?_eq_some_iff.1 sx1).1).trans sx1
 clear sx1 sx0 sB1 sB0 d0 d1 d2 d3 d4 d5 d6 d7 d8 z10 z11 z12 z13 z14 z15 z16 z17 z18  hb4 x3 hB3
 obtain ⟨⟨d0,d1,d2,d3,d4,d5,d6,d7,d8⟩,z10,z11,z12,z13,z14,z15,z16,z17,z18⟩:=cf9 x4
 have hRW:=hR
 have sB0:=hB4.setCell (p:=⟨w.heap.size,2,none⟩) (Nat.le_refl _) (.int .i64 2)
 have sx0:(w4.setCell ⟨w.heap.size,2,none⟩ (.int .i64 2)).heap[w.heap.size]?=some (.cells #[.int .i64 c,.int .i64 n,.int .i64 2,.int .i64 0,.string ⟨#[]⟩,.slice none 0 0,.int .i64 0,.int .i64 0,.bool false] 44):=(heap_setCell_same _ w.heap.size 2 _ _ _ x4).trans (by simp)
 have sB1:=sB0.setCell (p:=⟨w.heap.size,5,none⟩) (Nat.le_refl _) (.slice a m cap)
 have sx1:((w4.setCell ⟨w.heap.size,2,none⟩ (.int .i64 2)).setCell ⟨w.heap.size,5,none⟩ (.slice a m cap)).heap[w.heap.size]?=some (.cells #[.int .i64 c,.int .i64 n,.int .i64 2,.int .i64 0,.string ⟨#[]⟩,.slice a m cap,.int .i64 0,.int .i64 0,.bool false] 44):=(heap_setCell_same _ w.heap.size 5 _ _ _ sx0).trans (by simp)
 have hx9:=set9 sx1
 have hq8:=q9 sB1 (b:=w.heap.size) (Nat.le_refl _) (.int .i64 c) (.int .i64 n) (.int .i64 2) (.int .i64 0) (.string ⟨#[]⟩) (.slice a m cap) (.int .i64 0) (.int .i64 0) (.bool false)
 obtain ⟨w9,hw9⟩:=exW hx9
 rw [hw9] at hx9 hq8
 obtain ⟨r0,r1,r2,r3,r4,r5,r6,r7,r8⟩:=cl9 hx9
 have hRg:Rng w9 a m cap R:=by
  rw [← hw9]
  refine rng_set ?_ _ _ _ hRb.out
  refine rng_set ?_ _ _ _ hRb.out
  refine rng_set ?_ _ _ _ hRb.out
  refine rng_set ?_ _ _ _ hRb.out
  refine rng_set ?_ _ _ _ hRb.out
  refine rng_set ?_ _ _ _ hRb.out
  refine rng_set ?_ _ _ _ hRb.out
  refine rng_set ?_ _ _ _ hRb.out
  refine rng_set ?_ _ _ _ hRb.out
  refine rng_set ?_ _ _ _ hRb.out
  refine rng_set ?_ _ _ _ hRb.out
  exact hRW
 clear sx1 sx0 sB1 sB0
 go_wp2_with fail
 try rw [hw9]
 refine bodyPost_ret (v:=.agg #[.int .i64 c,.int .i64 n,.int .i64 2,.int .i64 0,.string ⟨#[]⟩,.slice a m cap,.int .i64 0,.int .i64 0,.bool false]) (by simp [results,Tryz.results82,go_sem,r0,r1,r2,r3,r4,r5,r6,r7,r8]) rfl ⟨a,m,cap,rfl,hRg,HAt.out,hq8⟩
set_option maxHeartbeats 2000000 in
theorem readLine_show (l:List UInt8) (hl:l.length≤4294967296) (w:World) (he:Errs w) (h0:(cut1 (cut1 l 32).2.1 32).1=showW) :
  Calls Tryz.prog 82 #[.string (bs l)] w fun e w'=>∃ a m cap,e=.returned (opVal (readP l) (.slice a m cap))∧Rng w' a m cap (readP l).l∧(∀ g off,a=some ⟨g,off,none⟩→w.heap.size≤g)∧Below w.heap.size w w':=by
 have HR:Hid (readP l=⟨(idP (cut1 l 32).1).1,(idP (cut1 l 32).1).2,3,0,⟨#[]⟩,rngsP 32769 (cut1 (cut1 l 32).2.1 32).2.1,0,0,false⟩):=by
  show _=_
  unfold readP readW
  rw [h0]
  rw [if_neg (by decide),if_neg (by decide),if_pos rfl]
 have hle:=cut1_le l 32
 have hle2:=cut1_le (cut1 l 32).2.1 32
 have H1:Hid (∀ w:World,Calls Tryz.prog 105 #[.string (bs l),.string ⟨#[32]⟩] w fun e w'=>e=.returned (.tuple #[.string (bs (cut1 l 32).1),.string (bs (cut1 l 32).2.1),.bool (cut1 l 32).2.2])∧Below w.heap.size w w'):=fun w=>cutS_any l 32 hl w
 have H2:Hid (∀ w:World,Calls Tryz.prog 105 #[.string (bs (cut1 l 32).2.1),.string ⟨#[32]⟩] w fun e w'=>e=.returned (.tuple #[.string (bs (cut1 (cut1 l 32).2.1 32).1),.string (bs (cut1 (cut1 l 32).2.1 32).2.1),.bool (cut1 (cut1 l 32).2.1 32).2.2])∧Below w.heap.size w w'):=fun w=>cutS_any _ 32 (by omega) w
 have H3:Hid (∀ w':World,Below w.heap.size w w'→Calls Tryz.prog 106 #[.string (bs (cut1 l 32).1)] w' fun e w''=>e=.returned (.agg #[.int .i64 (idP (cut1 l 32).1).1,.int .i64 (idP (cut1 l 32).1).2])∧Below w'.heap.size w' w''):=fun w' hb=>readID_any _ (by omega) w' (he.below hb)
 have H4:Hid (∀ w':World,Below w.heap.size w w'→Calls Tryz.prog 109 #[.string (bs (cut1 (cut1 l 32).2.1 32).2.1)] w' fun e w''=>∃ a m cap,e=.returned (.slice a m cap)∧Rng w'' a m cap (rngsP 32769 (cut1 (cut1 l 32).2.1 32).2.1)∧(∀ g off,a=some ⟨g,off,none⟩→w'.heap.size≤g)∧Below w'.heap.size w' w''):=fun w' hb=>readRanges_any _ (by omega) w' (he.below hb)
 generalize hwd:(cut1 (cut1 l 32).2.1 32).1=wd at *
 have hlist:(bs wd).toList=showW:=(list_of wd).trans h0
 have t1:((bs wd).toList==[105,110,115])=false:=by rw [hlist];rfl
 have t2:((bs wd).toList==[104,105,100,101])=false:=by rw [hlist];rfl
 have t3:((bs wd).toList==[115,104,111,119])=true:=by rw [hlist];rfl
 rw [HR.out]
 clear hle hle2 he hl HR h0 hlist hwd
 generalize (idP (cut1 l 32).1).1=c at *
 generalize (idP (cut1 l 32).1).2=n at *
 generalize bs wd=W0 at *
 generalize rngsP 32769 (cut1 (cut1 l 32).2.1 32).2.1=R at *
 generalize bs (cut1 (cut1 l 32).2.1 32).2.1=rs at *
 generalize (cut1 (cut1 l 32).2.1 32).2.2=z1 at *
 generalize bs (cut1 l 32).1=p1 at *
 generalize bs (cut1 l 32).2.1=p2 at *
 generalize (cut1 l 32).2.2=z2 at *
 generalize bs l=S at *
 simp only [opVal]
 have hw2:=(Below.refl w.heap.size w).alloc (Nat.le_refl _) (Obj.cells #[.int .i64 0,.int .i64 0,.int .i64 0,.int .i64 0,.string ⟨#[]⟩,.slice none 0 0,.int .i64 0,.int .i64 0,.bool false] 44)
 go_enter Tryz.func82,Tryz.ntmps82
 go_wp2_with fail
 refine (H1.out _).mono ?_
 rintro e w1 ⟨rfl,hb1⟩
 have hB1:=hw2.trans (hb1.mono hw2.size)
 have x1:=(hb1.block w.heap.size (by simp)).trans (alloc_last _ _ _ rfl)
 clear hw2 hb1
 go_wp2_with fail
 refine (H2.out _).mono ?_
 rintro e w2 ⟨rfl,hb2⟩
 have hB2:=hB1.trans (hb2.mono hB1.size)
 have x2:=(hb2.block _ (Array.getElem?_eq_some_iff.1 x1).1).trans x1
 clear hB1 hb2 x1
 go_wp2_with fail
 refine (H3.out _ hB2).mono ?_
 rintro e w3 ⟨rfl,hb3⟩
 have hB3:=hB2.trans (hb3.mono hB2.size)
 have x3:=(hb3.block _ (Array.getElem?_eq_some_iff.1 x2).1).trans x2
 clear hB2 hb3 x2
 obtain ⟨⟨d0,d1,d2,d3,d4,d5,d6,d7,d8⟩,z10,z11,z12,z13,z14,z15,z16,z17,z18⟩:=cf9 x3
 go_wp2_with fail
 have sB0:=hB3.setCell (p:=⟨w.heap.size,0,none⟩) (Nat.le_refl _) (.int .i64 c)
 have sx0:(w3.setCell ⟨w.heap.size,0,none⟩ (.int .i64 c)).heap[w.heap.size]?=some (.cells #[.int .i64 c,.int .i64 0,.int .i64 0,.int .i64 0,.string ⟨#[]⟩,.slice none 0 0,.int .i64 0,.int .i64 0,.bool false] 44):=(heap_setCell_same _ w.heap.size 0 _ _ _ x3).trans (by simp)
 have sB1:=sB0.setCell (p:=⟨w.heap.size,1,none⟩) (Nat.le_refl _) (.int .i64 n)
 have sx1:((w3.setCell ⟨w.heap.size,0,none⟩ (.int .i64 c)).setCell ⟨w.heap.size,1,none⟩ (.int .i64 n)).heap[w.heap.size]?=some (.cells #[.int .i64 c,.int .i64 n,.int .i64 0,.int .i64 0,.string ⟨#[]⟩,.slice none 0 0,.int .i64 0,.int .i64 0,.bool false] 44):=(heap_setCell_same _ w.heap.size 1 _ _ _ sx0).trans (by simp)
 refine (H4.out _ sB1).mono ?_
 rintro e w4 ⟨a,m,cap,rfl,hR,hAt,hb4⟩
 have hRb:Hid (∀ g off,a=some ⟨g,off,none⟩→0<m→g≠w.heap.size):=fun g off ha _=>by have h1:=hAt g off ha;have h2:=(Array.getElem?_eq_some_iff.1 sx1).1;omega
 have HAt:Hid (∀ g off,a=some ⟨g,off,none⟩→w.heap.size≤g):=fun g off ha=>by have h1:=hAt g off ha;have h2:=(Array.getElem?_eq_some_iff.1 sx1).1;omega
 clear hAt
 have hB4:=sB1.trans (hb4.mono sB1.size)
 have x4:=(hb4.block _ (Array.getElem?_eq_some_iff.1 sx1).1).trans sx1
 clear sx1 sx0 sB1 sB0 d0 d1 d2 d3 d4 d5 d6 d7 d8 z10 z11 z12 z13 z14 z15 z16 z17 z18  hb4 x3 hB3
 obtain ⟨⟨d0,d1,d2,d3,d4,d5,d6,d7,d8⟩,z10,z11,z12,z13,z14,z15,z16,z17,z18⟩:=cf9 x4
 have hRW:=hR
 have sB0:=hB4.setCell (p:=⟨w.heap.size,2,none⟩) (Nat.le_refl _) (.int .i64 3)
 have sx0:(w4.setCell ⟨w.heap.size,2,none⟩ (.int .i64 3)).heap[w.heap.size]?=some (.cells #[.int .i64 c,.int .i64 n,.int .i64 3,.int .i64 0,.string ⟨#[]⟩,.slice none 0 0,.int .i64 0,.int .i64 0,.bool false] 44):=(heap_setCell_same _ w.heap.size 2 _ _ _ x4).trans (by simp)
 have sB1:=sB0.setCell (p:=⟨w.heap.size,5,none⟩) (Nat.le_refl _) (.slice a m cap)
 have sx1:((w4.setCell ⟨w.heap.size,2,none⟩ (.int .i64 3)).setCell ⟨w.heap.size,5,none⟩ (.slice a m cap)).heap[w.heap.size]?=some (.cells #[.int .i64 c,.int .i64 n,.int .i64 3,.int .i64 0,.string ⟨#[]⟩,.slice a m cap,.int .i64 0,.int .i64 0,.bool false] 44):=(heap_setCell_same _ w.heap.size 5 _ _ _ sx0).trans (by simp)
 have hx9:=set9 sx1
 have hq8:=q9 sB1 (b:=w.heap.size) (Nat.le_refl _) (.int .i64 c) (.int .i64 n) (.int .i64 3) (.int .i64 0) (.string ⟨#[]⟩) (.slice a m cap) (.int .i64 0) (.int .i64 0) (.bool false)
 obtain ⟨w9,hw9⟩:=exW hx9
 rw [hw9] at hx9 hq8
 obtain ⟨r0,r1,r2,r3,r4,r5,r6,r7,r8⟩:=cl9 hx9
 have hRg:Rng w9 a m cap R:=by
  rw [← hw9]
  refine rng_set ?_ _ _ _ hRb.out
  refine rng_set ?_ _ _ _ hRb.out
  refine rng_set ?_ _ _ _ hRb.out
  refine rng_set ?_ _ _ _ hRb.out
  refine rng_set ?_ _ _ _ hRb.out
  refine rng_set ?_ _ _ _ hRb.out
  refine rng_set ?_ _ _ _ hRb.out
  refine rng_set ?_ _ _ _ hRb.out
  refine rng_set ?_ _ _ _ hRb.out
  refine rng_set ?_ _ _ _ hRb.out
  refine rng_set ?_ _ _ _ hRb.out
  exact hRW
 clear sx1 sx0 sB1 sB0
 go_wp2_with fail
 try rw [hw9]
 refine bodyPost_ret (v:=.agg #[.int .i64 c,.int .i64 n,.int .i64 3,.int .i64 0,.string ⟨#[]⟩,.slice a m cap,.int .i64 0,.int .i64 0,.bool false]) (by simp [results,Tryz.results82,go_sem,r0,r1,r2,r3,r4,r5,r6,r7,r8]) rfl ⟨a,m,cap,rfl,hRg,HAt.out,hq8⟩
set_option maxHeartbeats 2000000 in
theorem readLine_on (l:List UInt8) (hl:l.length≤4294967296) (w:World) (he:Errs w) (h0:(cut1 (cut1 l 32).2.1 32).1=onW) :
  Calls Tryz.prog 82 #[.string (bs l)] w fun e w'=>∃ a m cap,e=.returned (opVal (readP l) (.slice a m cap))∧Rng w' a m cap (readP l).l∧(∀ g off,a=some ⟨g,off,none⟩→w.heap.size≤g)∧Below w.heap.size w w':=by
 have HR:Hid (readP l=⟨(idP (cut1 l 32).1).1,(idP (cut1 l 32).1).2,4,0,⟨#[]⟩,[],(idP (cut1 (cut1 l 32).2.1 32).2.1).1,(idP (cut1 (cut1 l 32).2.1 32).2.1).2,true⟩):=by
  show _=_
  unfold readP readW
  rw [h0]
  rw [if_neg (by decide),if_neg (by decide),if_neg (by decide),if_pos (.inl rfl)]
  rfl
 have hle:=cut1_le l 32
 have hle2:=cut1_le (cut1 l 32).2.1 32
 have H1:Hid (∀ w:World,Calls Tryz.prog 105 #[.string (bs l),.string ⟨#[32]⟩] w fun e w'=>e=.returned (.tuple #[.string (bs (cut1 l 32).1),.string (bs (cut1 l 32).2.1),.bool (cut1 l 32).2.2])∧Below w.heap.size w w'):=fun w=>cutS_any l 32 hl w
 have H2:Hid (∀ w:World,Calls Tryz.prog 105 #[.string (bs (cut1 l 32).2.1),.string ⟨#[32]⟩] w fun e w'=>e=.returned (.tuple #[.string (bs (cut1 (cut1 l 32).2.1 32).1),.string (bs (cut1 (cut1 l 32).2.1 32).2.1),.bool (cut1 (cut1 l 32).2.1 32).2.2])∧Below w.heap.size w w'):=fun w=>cutS_any _ 32 (by omega) w
 have H3:Hid (∀ w':World,Below w.heap.size w w'→Calls Tryz.prog 106 #[.string (bs (cut1 l 32).1)] w' fun e w''=>e=.returned (.agg #[.int .i64 (idP (cut1 l 32).1).1,.int .i64 (idP (cut1 l 32).1).2])∧Below w'.heap.size w' w''):=fun w' hb=>readID_any _ (by omega) w' (he.below hb)
 have H4:Hid (∀ w':World,Below w.heap.size w w'→Calls Tryz.prog 106 #[.string (bs (cut1 (cut1 l 32).2.1 32).2.1)] w' fun e w''=>e=.returned (.agg #[.int .i64 (idP (cut1 (cut1 l 32).2.1 32).2.1).1,.int .i64 (idP (cut1 (cut1 l 32).2.1 32).2.1).2])∧Below w'.heap.size w' w''):=fun w' hb=>readID_any _ (by omega) w' (he.below hb)
 generalize hwd:(cut1 (cut1 l 32).2.1 32).1=wd at *
 have hlist:(bs wd).toList=onW:=(list_of wd).trans h0
 have t1:((bs wd).toList==[105,110,115])=false:=by rw [hlist];rfl
 have t2:((bs wd).toList==[104,105,100,101])=false:=by rw [hlist];rfl
 have t3:((bs wd).toList==[115,104,111,119])=false:=by rw [hlist];rfl
 have t4:((bs wd).toList==[111,110])=true:=by rw [hlist];rfl
 rw [HR.out]
 clear hle hle2 he hl HR h0 hlist hwd
 generalize (idP (cut1 l 32).1).1=c at *
 generalize (idP (cut1 l 32).1).2=n at *
 generalize bs wd=W0 at *
 generalize (idP (cut1 (cut1 l 32).2.1 32).2.1).1=tc at *
 generalize (idP (cut1 (cut1 l 32).2.1 32).2.1).2=tn at *
 generalize bs (cut1 (cut1 l 32).2.1 32).2.1=rs at *
 generalize (cut1 (cut1 l 32).2.1 32).2.2=z1 at *
 generalize bs (cut1 l 32).1=p1 at *
 generalize bs (cut1 l 32).2.1=p2 at *
 generalize (cut1 l 32).2.2=z2 at *
 generalize bs l=S at *
 simp only [opVal]
 have hw2:=(Below.refl w.heap.size w).alloc (Nat.le_refl _) (Obj.cells #[.int .i64 0,.int .i64 0,.int .i64 0,.int .i64 0,.string ⟨#[]⟩,.slice none 0 0,.int .i64 0,.int .i64 0,.bool false] 44)
 go_enter Tryz.func82,Tryz.ntmps82
 go_wp2_with fail
 refine (H1.out _).mono ?_
 rintro e w1 ⟨rfl,hb1⟩
 have hB1:=hw2.trans (hb1.mono hw2.size)
 have x1:=(hb1.block w.heap.size (by simp)).trans (alloc_last _ _ _ rfl)
 clear hw2 hb1
 go_wp2_with fail
 refine (H2.out _).mono ?_
 rintro e w2 ⟨rfl,hb2⟩
 have hB2:=hB1.trans (hb2.mono hB1.size)
 have x2:=(hb2.block _ (Array.getElem?_eq_some_iff.1 x1).1).trans x1
 clear hB1 hb2 x1
 go_wp2_with fail
 refine (H3.out _ hB2).mono ?_
 rintro e w3 ⟨rfl,hb3⟩
 have hB3:=hB2.trans (hb3.mono hB2.size)
 have x3:=(hb3.block _ (Array.getElem?_eq_some_iff.1 x2).1).trans x2
 clear hB2 hb3 x2
 obtain ⟨⟨d0,d1,d2,d3,d4,d5,d6,d7,d8⟩,z10,z11,z12,z13,z14,z15,z16,z17,z18⟩:=cf9 x3
 go_wp2_with fail
 have sB0:=hB3.setCell (p:=⟨w.heap.size,0,none⟩) (Nat.le_refl _) (.int .i64 c)
 have sx0:(w3.setCell ⟨w.heap.size,0,none⟩ (.int .i64 c)).heap[w.heap.size]?=some (.cells #[.int .i64 c,.int .i64 0,.int .i64 0,.int .i64 0,.string ⟨#[]⟩,.slice none 0 0,.int .i64 0,.int .i64 0,.bool false] 44):=(heap_setCell_same _ w.heap.size 0 _ _ _ x3).trans (by simp)
 have sB1:=sB0.setCell (p:=⟨w.heap.size,1,none⟩) (Nat.le_refl _) (.int .i64 n)
 have sx1:((w3.setCell ⟨w.heap.size,0,none⟩ (.int .i64 c)).setCell ⟨w.heap.size,1,none⟩ (.int .i64 n)).heap[w.heap.size]?=some (.cells #[.int .i64 c,.int .i64 n,.int .i64 0,.int .i64 0,.string ⟨#[]⟩,.slice none 0 0,.int .i64 0,.int .i64 0,.bool false] 44):=(heap_setCell_same _ w.heap.size 1 _ _ _ sx0).trans (by simp)
 refine (H4.out _ sB1).mono ?_
 rintro e w4 ⟨rfl,hb4⟩
 have hB4:=sB1.trans (hb4.mono sB1.size)
 have x4:=(hb4.block _ (Array.getElem?_eq_some_iff.1 sx1).1).trans sx1
 clear sx1 sx0 sB1 sB0 d0 d1 d2 d3 d4 d5 d6 d7 d8 z10 z11 z12 z13 z14 z15 z16 z17 z18  hb4 x3 hB3
 obtain ⟨⟨d0,d1,d2,d3,d4,d5,d6,d7,d8⟩,z10,z11,z12,z13,z14,z15,z16,z17,z18⟩:=cf9 x4
 have sB0:=hB4.setCell (p:=⟨w.heap.size,2,none⟩) (Nat.le_refl _) (.int .i64 4)
 have sx0:(w4.setCell ⟨w.heap.size,2,none⟩ (.int .i64 4)).heap[w.heap.size]?=some (.cells #[.int .i64 c,.int .i64 n,.int .i64 4,.int .i64 0,.string ⟨#[]⟩,.slice none 0 0,.int .i64 0,.int .i64 0,.bool false] 44):=(heap_setCell_same _ w.heap.size 2 _ _ _ x4).trans (by simp)
 have sB1:=sB0.setCell (p:=⟨w.heap.size,6,none⟩) (Nat.le_refl _) (.int .i64 tc)
 have sx1:((w4.setCell ⟨w.heap.size,2,none⟩ (.int .i64 4)).setCell ⟨w.heap.size,6,none⟩ (.int .i64 tc)).heap[w.heap.size]?=some (.cells #[.int .i64 c,.int .i64 n,.int .i64 4,.int .i64 0,.string ⟨#[]⟩,.slice none 0 0,.int .i64 tc,.int .i64 0,.bool false] 44):=(heap_setCell_same _ w.heap.size 6 _ _ _ sx0).trans (by simp)
 have sB2:=sB1.setCell (p:=⟨w.heap.size,7,none⟩) (Nat.le_refl _) (.int .i64 tn)
 have sx2:(((w4.setCell ⟨w.heap.size,2,none⟩ (.int .i64 4)).setCell ⟨w.heap.size,6,none⟩ (.int .i64 tc)).setCell ⟨w.heap.size,7,none⟩ (.int .i64 tn)).heap[w.heap.size]?=some (.cells #[.int .i64 c,.int .i64 n,.int .i64 4,.int .i64 0,.string ⟨#[]⟩,.slice none 0 0,.int .i64 tc,.int .i64 tn,.bool false] 44):=(heap_setCell_same _ w.heap.size 7 _ _ _ sx1).trans (by simp)
 have sB3:=sB2.setCell (p:=⟨w.heap.size,8,none⟩) (Nat.le_refl _) (.bool true)
 have sx3:((((w4.setCell ⟨w.heap.size,2,none⟩ (.int .i64 4)).setCell ⟨w.heap.size,6,none⟩ (.int .i64 tc)).setCell ⟨w.heap.size,7,none⟩ (.int .i64 tn)).setCell ⟨w.heap.size,8,none⟩ (.bool true)).heap[w.heap.size]?=some (.cells #[.int .i64 c,.int .i64 n,.int .i64 4,.int .i64 0,.string ⟨#[]⟩,.slice none 0 0,.int .i64 tc,.int .i64 tn,.bool true] 44):=(heap_setCell_same _ w.heap.size 8 _ _ _ sx2).trans (by simp)
 have hx9:=set9 sx3
 have hq8:=q9 sB3 (b:=w.heap.size) (Nat.le_refl _) (.int .i64 c) (.int .i64 n) (.int .i64 4) (.int .i64 0) (.string ⟨#[]⟩) (.slice none 0 0) (.int .i64 tc) (.int .i64 tn) (.bool true)
 obtain ⟨w9,hw9⟩:=exW hx9
 rw [hw9] at hx9 hq8
 obtain ⟨r0,r1,r2,r3,r4,r5,r6,r7,r8⟩:=cl9 hx9
 clear sx3 sx2 sx1 sx0 sB3 sB2 sB1 sB0
 go_wp2_with fail
 try rw [hw9]
 refine bodyPost_ret (v:=.agg #[.int .i64 c,.int .i64 n,.int .i64 4,.int .i64 0,.string ⟨#[]⟩,.slice none 0 0,.int .i64 tc,.int .i64 tn,.bool true]) (by simp [results,Tryz.results82,go_sem,r0,r1,r2,r3,r4,r5,r6,r7,r8]) rfl ⟨none,0,0,rfl,rng_nil _,(fun g off h=>by cases h),hq8⟩
set_option maxHeartbeats 2000000 in
theorem readLine_off (l:List UInt8) (hl:l.length≤4294967296) (w:World) (he:Errs w) (h0:(cut1 (cut1 l 32).2.1 32).1=offW) :
  Calls Tryz.prog 82 #[.string (bs l)] w fun e w'=>∃ a m cap,e=.returned (opVal (readP l) (.slice a m cap))∧Rng w' a m cap (readP l).l∧(∀ g off,a=some ⟨g,off,none⟩→w.heap.size≤g)∧Below w.heap.size w w':=by
 have HR:Hid (readP l=⟨(idP (cut1 l 32).1).1,(idP (cut1 l 32).1).2,4,0,⟨#[]⟩,[],(idP (cut1 (cut1 l 32).2.1 32).2.1).1,(idP (cut1 (cut1 l 32).2.1 32).2.1).2,false⟩):=by
  show _=_
  unfold readP readW
  rw [h0]
  rw [if_neg (by decide),if_neg (by decide),if_neg (by decide),if_pos (.inr rfl)]
  rfl
 have hle:=cut1_le l 32
 have hle2:=cut1_le (cut1 l 32).2.1 32
 have H1:Hid (∀ w:World,Calls Tryz.prog 105 #[.string (bs l),.string ⟨#[32]⟩] w fun e w'=>e=.returned (.tuple #[.string (bs (cut1 l 32).1),.string (bs (cut1 l 32).2.1),.bool (cut1 l 32).2.2])∧Below w.heap.size w w'):=fun w=>cutS_any l 32 hl w
 have H2:Hid (∀ w:World,Calls Tryz.prog 105 #[.string (bs (cut1 l 32).2.1),.string ⟨#[32]⟩] w fun e w'=>e=.returned (.tuple #[.string (bs (cut1 (cut1 l 32).2.1 32).1),.string (bs (cut1 (cut1 l 32).2.1 32).2.1),.bool (cut1 (cut1 l 32).2.1 32).2.2])∧Below w.heap.size w w'):=fun w=>cutS_any _ 32 (by omega) w
 have H3:Hid (∀ w':World,Below w.heap.size w w'→Calls Tryz.prog 106 #[.string (bs (cut1 l 32).1)] w' fun e w''=>e=.returned (.agg #[.int .i64 (idP (cut1 l 32).1).1,.int .i64 (idP (cut1 l 32).1).2])∧Below w'.heap.size w' w''):=fun w' hb=>readID_any _ (by omega) w' (he.below hb)
 have H4:Hid (∀ w':World,Below w.heap.size w w'→Calls Tryz.prog 106 #[.string (bs (cut1 (cut1 l 32).2.1 32).2.1)] w' fun e w''=>e=.returned (.agg #[.int .i64 (idP (cut1 (cut1 l 32).2.1 32).2.1).1,.int .i64 (idP (cut1 (cut1 l 32).2.1 32).2.1).2])∧Below w'.heap.size w' w''):=fun w' hb=>readID_any _ (by omega) w' (he.below hb)
 generalize hwd:(cut1 (cut1 l 32).2.1 32).1=wd at *
 have hlist:(bs wd).toList=offW:=(list_of wd).trans h0
 have t1:((bs wd).toList==[105,110,115])=false:=by rw [hlist];rfl
 have t2:((bs wd).toList==[104,105,100,101])=false:=by rw [hlist];rfl
 have t3:((bs wd).toList==[115,104,111,119])=false:=by rw [hlist];rfl
 have t4:((bs wd).toList==[111,110])=false:=by rw [hlist];rfl
 have t5:((bs wd).toList==[111,102,102])=true:=by rw [hlist];rfl
 rw [HR.out]
 clear hle hle2 he hl HR h0 hlist hwd
 generalize (idP (cut1 l 32).1).1=c at *
 generalize (idP (cut1 l 32).1).2=n at *
 generalize bs wd=W0 at *
 generalize (idP (cut1 (cut1 l 32).2.1 32).2.1).1=tc at *
 generalize (idP (cut1 (cut1 l 32).2.1 32).2.1).2=tn at *
 generalize bs (cut1 (cut1 l 32).2.1 32).2.1=rs at *
 generalize (cut1 (cut1 l 32).2.1 32).2.2=z1 at *
 generalize bs (cut1 l 32).1=p1 at *
 generalize bs (cut1 l 32).2.1=p2 at *
 generalize (cut1 l 32).2.2=z2 at *
 generalize bs l=S at *
 simp only [opVal]
 have hw2:=(Below.refl w.heap.size w).alloc (Nat.le_refl _) (Obj.cells #[.int .i64 0,.int .i64 0,.int .i64 0,.int .i64 0,.string ⟨#[]⟩,.slice none 0 0,.int .i64 0,.int .i64 0,.bool false] 44)
 go_enter Tryz.func82,Tryz.ntmps82
 go_wp2_with fail
 refine (H1.out _).mono ?_
 rintro e w1 ⟨rfl,hb1⟩
 have hB1:=hw2.trans (hb1.mono hw2.size)
 have x1:=(hb1.block w.heap.size (by simp)).trans (alloc_last _ _ _ rfl)
 clear hw2 hb1
 go_wp2_with fail
 refine (H2.out _).mono ?_
 rintro e w2 ⟨rfl,hb2⟩
 have hB2:=hB1.trans (hb2.mono hB1.size)
 have x2:=(hb2.block _ (Array.getElem?_eq_some_iff.1 x1).1).trans x1
 clear hB1 hb2 x1
 go_wp2_with fail
 refine (H3.out _ hB2).mono ?_
 rintro e w3 ⟨rfl,hb3⟩
 have hB3:=hB2.trans (hb3.mono hB2.size)
 have x3:=(hb3.block _ (Array.getElem?_eq_some_iff.1 x2).1).trans x2
 clear hB2 hb3 x2
 obtain ⟨⟨d0,d1,d2,d3,d4,d5,d6,d7,d8⟩,z10,z11,z12,z13,z14,z15,z16,z17,z18⟩:=cf9 x3
 go_wp2_with fail
 have sB0:=hB3.setCell (p:=⟨w.heap.size,0,none⟩) (Nat.le_refl _) (.int .i64 c)
 have sx0:(w3.setCell ⟨w.heap.size,0,none⟩ (.int .i64 c)).heap[w.heap.size]?=some (.cells #[.int .i64 c,.int .i64 0,.int .i64 0,.int .i64 0,.string ⟨#[]⟩,.slice none 0 0,.int .i64 0,.int .i64 0,.bool false] 44):=(heap_setCell_same _ w.heap.size 0 _ _ _ x3).trans (by simp)
 have sB1:=sB0.setCell (p:=⟨w.heap.size,1,none⟩) (Nat.le_refl _) (.int .i64 n)
 have sx1:((w3.setCell ⟨w.heap.size,0,none⟩ (.int .i64 c)).setCell ⟨w.heap.size,1,none⟩ (.int .i64 n)).heap[w.heap.size]?=some (.cells #[.int .i64 c,.int .i64 n,.int .i64 0,.int .i64 0,.string ⟨#[]⟩,.slice none 0 0,.int .i64 0,.int .i64 0,.bool false] 44):=(heap_setCell_same _ w.heap.size 1 _ _ _ sx0).trans (by simp)
 refine (H4.out _ sB1).mono ?_
 rintro e w4 ⟨rfl,hb4⟩
 have hB4:=sB1.trans (hb4.mono sB1.size)
 have x4:=(hb4.block _ (Array.getElem?_eq_some_iff.1 sx1).1).trans sx1
 clear sx1 sx0 sB1 sB0 d0 d1 d2 d3 d4 d5 d6 d7 d8 z10 z11 z12 z13 z14 z15 z16 z17 z18  hb4 x3 hB3
 obtain ⟨⟨d0,d1,d2,d3,d4,d5,d6,d7,d8⟩,z10,z11,z12,z13,z14,z15,z16,z17,z18⟩:=cf9 x4
 have sB0:=hB4.setCell (p:=⟨w.heap.size,2,none⟩) (Nat.le_refl _) (.int .i64 4)
 have sx0:(w4.setCell ⟨w.heap.size,2,none⟩ (.int .i64 4)).heap[w.heap.size]?=some (.cells #[.int .i64 c,.int .i64 n,.int .i64 4,.int .i64 0,.string ⟨#[]⟩,.slice none 0 0,.int .i64 0,.int .i64 0,.bool false] 44):=(heap_setCell_same _ w.heap.size 2 _ _ _ x4).trans (by simp)
 have sB1:=sB0.setCell (p:=⟨w.heap.size,6,none⟩) (Nat.le_refl _) (.int .i64 tc)
 have sx1:((w4.setCell ⟨w.heap.size,2,none⟩ (.int .i64 4)).setCell ⟨w.heap.size,6,none⟩ (.int .i64 tc)).heap[w.heap.size]?=some (.cells #[.int .i64 c,.int .i64 n,.int .i64 4,.int .i64 0,.string ⟨#[]⟩,.slice none 0 0,.int .i64 tc,.int .i64 0,.bool false] 44):=(heap_setCell_same _ w.heap.size 6 _ _ _ sx0).trans (by simp)
 have sB2:=sB1.setCell (p:=⟨w.heap.size,7,none⟩) (Nat.le_refl _) (.int .i64 tn)
 have sx2:(((w4.setCell ⟨w.heap.size,2,none⟩ (.int .i64 4)).setCell ⟨w.heap.size,6,none⟩ (.int .i64 tc)).setCell ⟨w.heap.size,7,none⟩ (.int .i64 tn)).heap[w.heap.size]?=some (.cells #[.int .i64 c,.int .i64 n,.int .i64 4,.int .i64 0,.string ⟨#[]⟩,.slice none 0 0,.int .i64 tc,.int .i64 tn,.bool false] 44):=(heap_setCell_same _ w.heap.size 7 _ _ _ sx1).trans (by simp)
 have sB3:=sB2.setCell (p:=⟨w.heap.size,8,none⟩) (Nat.le_refl _) (.bool false)
 have sx3:((((w4.setCell ⟨w.heap.size,2,none⟩ (.int .i64 4)).setCell ⟨w.heap.size,6,none⟩ (.int .i64 tc)).setCell ⟨w.heap.size,7,none⟩ (.int .i64 tn)).setCell ⟨w.heap.size,8,none⟩ (.bool false)).heap[w.heap.size]?=some (.cells #[.int .i64 c,.int .i64 n,.int .i64 4,.int .i64 0,.string ⟨#[]⟩,.slice none 0 0,.int .i64 tc,.int .i64 tn,.bool false] 44):=(heap_setCell_same _ w.heap.size 8 _ _ _ sx2).trans (by simp)
 have hx9:=set9 sx3
 have hq8:=q9 sB3 (b:=w.heap.size) (Nat.le_refl _) (.int .i64 c) (.int .i64 n) (.int .i64 4) (.int .i64 0) (.string ⟨#[]⟩) (.slice none 0 0) (.int .i64 tc) (.int .i64 tn) (.bool false)
 obtain ⟨w9,hw9⟩:=exW hx9
 rw [hw9] at hx9 hq8
 obtain ⟨r0,r1,r2,r3,r4,r5,r6,r7,r8⟩:=cl9 hx9
 clear sx3 sx2 sx1 sx0 sB3 sB2 sB1 sB0
 go_wp2_with fail
 try rw [hw9]
 refine bodyPost_ret (v:=.agg #[.int .i64 c,.int .i64 n,.int .i64 4,.int .i64 0,.string ⟨#[]⟩,.slice none 0 0,.int .i64 tc,.int .i64 tn,.bool false]) (by simp [results,Tryz.results82,go_sem,r0,r1,r2,r3,r4,r5,r6,r7,r8]) rfl ⟨none,0,0,rfl,rng_nil _,(fun g off h=>by cases h),hq8⟩
theorem readLine_any (l:List UInt8) (hl:l.length≤4294967296) (w:World) (he:Errs w) (hd:Deb w) :
  Calls Tryz.prog 82 #[.string (bs l)] w fun e w'=>∃ a m cap,e=.returned (opVal (readP l) (.slice a m cap))∧Rng w' a m cap (readP l).l∧(∀ g off,a=some ⟨g,off,none⟩→w.heap.size≤g)∧Below w.heap.size w w':=by
 by_cases h1:(cut1 (cut1 l 32).2.1 32).1=insW
 ·exact readLine_ins l hl w he hd h1
 by_cases h2:(cut1 (cut1 l 32).2.1 32).1=hideW
 ·exact readLine_hide l hl w he h2
 by_cases h3:(cut1 (cut1 l 32).2.1 32).1=showW
 ·exact readLine_show l hl w he h3
 by_cases h4:(cut1 (cut1 l 32).2.1 32).1=onW
 ·exact readLine_on l hl w he h4
 by_cases h5:(cut1 (cut1 l 32).2.1 32).1=offW
 ·exact readLine_off l hl w he h5
 exact readLine_no l hl w he h1 h2 h3 h4 h5
end Go.Proofs.YtijpfbcippijoaaGreatDoor
