import Derived.Test.YtijpfbcippijoaaGreatDoorAl
import Derived.Test.YtijpfbcippijoaaGreatDoorGr123
import Derived.Test.YtijpfbcippijoaaGreatDoorGr126
import Derived.Test.YtijpfbcippijoaaGreatDoorGr142
import Derived.Test.YtijpfbcippijoaaGreatDoorGr132
set_option maxHeartbeats 4000000
set_option maxRecDepth 100000
namespace Go.Proofs.YtijpfbcippijoaaGreatDoor
open Go.RowKit Go.Lib Sp
theorem box9k {W:World} {b:Nat} {T:TypeId} {v0 v1 v2 v3 v4 v5 v6 v7 v8:Value} (h:W.heap[b]?=some (.cells #[v0,v1,v2,v3,v4,v5,v6,v7,v8] T)) :
  W.cell? ⟨b,0,none⟩=some v0∧W.cell? ⟨b,1,none⟩=some v1∧W.cell? ⟨b,2,none⟩=some v2∧W.cell? ⟨b,3,none⟩=some v3∧W.cell? ⟨b,4,none⟩=some v4∧W.cell? ⟨b,5,none⟩=some v5∧W.cell? ⟨b,6,none⟩=some v6∧W.cell? ⟨b,7,none⟩=some v7∧W.cell? ⟨b,8,none⟩=some v8:=by
 simp only [cH h];exact ⟨rfl,rfl,rfl,rfl,rfl,rfl,rfl,rfl,rfl⟩
theorem box34 {W:World} {b:Nat} {T:TypeId} {v0 v1 v2 v3 v4 v5 v6 v7 v8:Value} (h:W.heap[b]?=some (.cells #[v0,v1,v2,v3,v4,v5,v6,v7,v8] T)):W.cell? ⟨b,3,none⟩=some v3∧W.cell? ⟨b,4,none⟩=some v4:=by
 simp only [cH h];exact ⟨rfl,rfl⟩
theorem gPrint_wrong {c n k p:Int} {s:ByteArray} {l:List (Int×Int)} {tc tn:Int} {on:Bool} {w:World} {a:Option Addr} {m cap:Nat} (h:Rng w a m cap l) (hs:s.size≤2097152) (hok:ownP ⟨c,n,k,p,s,l,tc,tn,on⟩≠0) :
  Calls Tryz.prog 43 #[opVal ⟨c,n,k,p,s,l,tc,tn,on⟩ (.slice a m cap)] w fun e w'=>e=.returned (.tuple #[.string ⟨#[]⟩,.int .i64 (ownP ⟨c,n,k,p,s,l,tc,tn,on⟩)])∧Below w.heap.size w w':=by
 obtain ⟨C,hC⟩:∃ C,ownP ⟨c,n,k,p,s,l,tc,tn,on⟩=C:=⟨_,rfl⟩;have HO:Hid (∀ w':World,Below w.heap.size w w'→Calls Tryz.prog 73 #[opVal ⟨c,n,k,p,s,l,tc,tn,on⟩ (.slice a m cap)] w' fun e w''=>e=.returned (.int .i64 C)∧Below w'.heap.size w' w''):=fun w' hb=>by rw [← hC];exact gOwn_any (o:=⟨c,n,k,p,s,l,tc,tn,on⟩) (h.below hb) hs
 rw [hC] at hok ⊢;clear hC;clear h hs;simp only [opVal] at *;obtain ⟨W1,hW1⟩:∃ W1,w.alloc (Obj.cells #[.int .i64 c,.int .i64 n,.int .i64 k,.int .i64 p,.string s,.slice a m cap,.int .i64 tc,.int .i64 tn,.bool on] 44)=W1:=⟨_,rfl⟩;have hX:Below w.heap.size w W1:=by rw [← hW1];exact (bE w.heap.size w).alloc (lR _) _
 have hx0:W1.heap[w.heap.size]?=some (Obj.cells #[.int .i64 c,.int .i64 n,.int .i64 k,.int .i64 p,.string s,.slice a m cap,.int .i64 tc,.int .i64 tn,.bool on] 44):=by rw [← hW1];exact alloc_last _ _ _ rfl
 obtain ⟨y0,y1,y2,y3,y4,y5,y6,y7,y8⟩:=box9k hx0;go_enter Tryz.func43,Tryz.ntmps43;go_wp2_with fail
 (try simp only [hW1])
 (try go_wp2_with fail)
 refine (HO.out _ hX).mono ?_;rintro e w1 ⟨rfl,hb1⟩;have hB1:=hX.trans (hb1.mono hX.size);clear y0 y1 y2 y3 y4 y5 y6 y7 y8 hb1 hx0 hX hW1 HO;have t1:(C==0)=false:=nB hok;clear hok;go_wp2_with fail;go_ret2;exact ⟨rfl,hB1⟩
theorem gPrint_hide {c n p:Int} {s:ByteArray} {l:List (Int×Int)} {tc tn:Int} {on:Bool} {w:World} {a:Option Addr} {m cap:Nat} (h:Rng w a m cap l) (hs:s.size≤2097152) (hok:ownP ⟨c,n,2,p,s,l,tc,tn,on⟩=0) :
  Calls Tryz.prog 43 #[opVal ⟨c,n,2,p,s,l,tc,tn,on⟩ (.slice a m cap)] w fun e w'=>e=.returned (.tuple #[.string (bs (printP ⟨c,n,2,p,s,l,tc,tn,on⟩)),.int .i64 0])∧Below w.heap.size w w':=by
 have hR:=right_of hok;have hln:=wordB_length hR (by show s.size≤_;omega);have hid:=idP_bd hR.id;simp only at hid;have hil:=idB_length hid.1 hid.2.1 hid.2.2.1 hid.2.2.2;obtain ⟨c,rfl⟩:=Int.eq_ofNat_of_zero_le hid.1;obtain ⟨n,rfl⟩:=Int.eq_ofNat_of_zero_le hid.2.2.1;have hrg:=hR.rng (by simp);simp only at hrg;have hLp:=lst_places hrg.2;have hfew:=hrg.2.few;have hrl:=rngB_length hLp;have HO:Hid (∀ w':World,Below w.heap.size w w'→Calls Tryz.prog 73 #[opVal ⟨c,n,2,p,s,l,tc,tn,on⟩ (.slice a m cap)] w' fun e w''=>e=.returned (.int .i64 0)∧Below w'.heap.size w' w''):=fun w' hb=>by rw [← hok];exact gOwn_any (o:=⟨c,n,2,p,s,l,tc,tn,on⟩) (h.below hb) hs
 have HN:Hid (∀ w':World,Calls Tryz.prog 78 #[.agg #[.int .i64 (c:Int),.int .i64 (n:Int)]] w' fun e w''=>e=.returned (.string (bs (idB (c:Int) (n:Int))))∧Below w'.heap.size w' w''):=fun w'=>gName_any c n (by omega) (by omega) w'
 have HG:Hid (∀ w':World,Below w.heap.size w w'→Calls Tryz.prog 81 #[.slice a m cap] w' fun e w''=>e=.returned (.string (bs (rngB l)))∧Below w'.heap.size w' w''):=fun w' hb=>gRangesS_any (h.below hb) hLp (by have:=h.len;omega)
 have HR:Hid (bs (idB (c:Int) (n:Int))++⟨#[32,104,105,100,101,32]⟩++bs (rngB l)=bs (printP ⟨(c:Int),(n:Int),2,p,s,l,tc,tn,on⟩)):=by
  show bs (idB (c:Int) (n:Int))++bs [32,104,105,100,101,32]++bs (rngB l)=_;rw [bs_append,bs_append];simp [printP,wordB,List.append_assoc]
 rw [← bs_size] at hrl;obtain ⟨z,hz⟩:∃ z,bs (rngB l)=z:=⟨_,rfl⟩;rw [hz] at hrl HG HR;clear hz hrg hLp;simp only [opVal] at *;rw [← bs_size] at hil;obtain ⟨x,hx⟩:∃ x,bs (idB (c:Int) (n:Int))=x:=⟨_,rfl⟩;rw [hx] at hil HN HR;clear hx hR hln hok;obtain ⟨W1,hW1⟩:∃ W1,w.alloc (Obj.cells #[.int .i64 c,.int .i64 n,.int .i64 2,.int .i64 p,.string s,.slice a m cap,.int .i64 tc,.int .i64 tn,.bool on] 44)=W1:=⟨_,rfl⟩;have hX:Below w.heap.size w W1:=by rw [← hW1];exact (bE w.heap.size w).alloc (lR _) _
 have hx0:W1.heap[w.heap.size]?=some (Obj.cells #[.int .i64 c,.int .i64 n,.int .i64 2,.int .i64 p,.string s,.slice a m cap,.int .i64 tc,.int .i64 tn,.bool on] 44):=by rw [← hW1];exact alloc_last _ _ _ rfl
 obtain ⟨y0,y1,y2,y3,y4,y5,y6,y7,y8⟩:=box9k hx0;go_enter Tryz.func43,Tryz.ntmps43;go_wp2_with fail
 (try simp only [hW1])
 (try go_wp2_with fail)
 refine (HO.out _ hX).mono ?_;rintro e w1 ⟨rfl,hb1⟩;have hB1:=hX.trans (hb1.mono hX.size);have hx1:=(hb1.block _ (gA hx0)).trans hx0;clear y0 y1 y2 y3 y4 y5 y6 y7 y8 hb1 hx0 hX hW1 HO;obtain ⟨y0,y1,y2,y3,y4,y5,y6,y7,y8⟩:=box9k hx1;go_wp2_with fail;refine (HN.out _).mono ?_;rintro e w2 ⟨rfl,hb2⟩;have hB2:=hB1.trans (hb2.mono hB1.size);have hx2:=(hb2.block _ (gA hx1)).trans hx1;clear y0 y1 y2 y3 y4 y5 y6 y7 y8 hb2 hx1 HN;obtain ⟨y0,y1,y2,y3,y4,y5,y6,y7,y8⟩:=box9k hx2;have g1:¬ 9223372036854775807<x.size+6:=by omega
 have g2:¬ 9223372036854775807<(x++⟨#[32,104,105,100,101,32]⟩).size+z.size:=by rw [ByteArray.size_append];show ¬ _<x.size+6+z.size;omega
 go_wp2_with fail;refine (HG.out _ hB2).mono ?_;rintro e w3 ⟨rfl,hb3⟩;have hB3:=hB2.trans (hb3.mono hB2.size);clear y0 y1 y2 y3 y4 y5 y6 y7 y8 hb3 hx2 HG;go_wp2_with fail;go_ret2;exact ⟨congrArg (fun b=>Ending.returned (.tuple #[.string b,.int .i64 0])) HR.out,hB3⟩
theorem gPrint_show {c n p:Int} {s:ByteArray} {l:List (Int×Int)} {tc tn:Int} {on:Bool} {w:World} {a:Option Addr} {m cap:Nat} (h:Rng w a m cap l) (hs:s.size≤2097152) (hok:ownP ⟨c,n,3,p,s,l,tc,tn,on⟩=0) :
  Calls Tryz.prog 43 #[opVal ⟨c,n,3,p,s,l,tc,tn,on⟩ (.slice a m cap)] w fun e w'=>e=.returned (.tuple #[.string (bs (printP ⟨c,n,3,p,s,l,tc,tn,on⟩)),.int .i64 0])∧Below w.heap.size w w':=by
 have hR:=right_of hok;have hln:=wordB_length hR (by show s.size≤_;omega);have hid:=idP_bd hR.id;simp only at hid;have hil:=idB_length hid.1 hid.2.1 hid.2.2.1 hid.2.2.2;obtain ⟨c,rfl⟩:=Int.eq_ofNat_of_zero_le hid.1;obtain ⟨n,rfl⟩:=Int.eq_ofNat_of_zero_le hid.2.2.1;have hrg:=hR.rng (by simp);simp only at hrg;have hLp:=lst_places hrg.2;have hfew:=hrg.2.few;have hrl:=rngB_length hLp;have HO:Hid (∀ w':World,Below w.heap.size w w'→Calls Tryz.prog 73 #[opVal ⟨c,n,3,p,s,l,tc,tn,on⟩ (.slice a m cap)] w' fun e w''=>e=.returned (.int .i64 0)∧Below w'.heap.size w' w''):=fun w' hb=>by rw [← hok];exact gOwn_any (o:=⟨c,n,3,p,s,l,tc,tn,on⟩) (h.below hb) hs
 have HN:Hid (∀ w':World,Calls Tryz.prog 78 #[.agg #[.int .i64 (c:Int),.int .i64 (n:Int)]] w' fun e w''=>e=.returned (.string (bs (idB (c:Int) (n:Int))))∧Below w'.heap.size w' w''):=fun w'=>gName_any c n (by omega) (by omega) w'
 have HG:Hid (∀ w':World,Below w.heap.size w w'→Calls Tryz.prog 81 #[.slice a m cap] w' fun e w''=>e=.returned (.string (bs (rngB l)))∧Below w'.heap.size w' w''):=fun w' hb=>gRangesS_any (h.below hb) hLp (by have:=h.len;omega)
 have HR:Hid (bs (idB (c:Int) (n:Int))++⟨#[32,115,104,111,119,32]⟩++bs (rngB l)=bs (printP ⟨(c:Int),(n:Int),3,p,s,l,tc,tn,on⟩)):=by
  show bs (idB (c:Int) (n:Int))++bs [32,115,104,111,119,32]++bs (rngB l)=_;rw [bs_append,bs_append];simp [printP,wordB,List.append_assoc]
 rw [← bs_size] at hrl;obtain ⟨z,hz⟩:∃ z,bs (rngB l)=z:=⟨_,rfl⟩;rw [hz] at hrl HG HR;clear hz hrg hLp;simp only [opVal] at *;rw [← bs_size] at hil;obtain ⟨x,hx⟩:∃ x,bs (idB (c:Int) (n:Int))=x:=⟨_,rfl⟩;rw [hx] at hil HN HR;clear hx hR hln hok;obtain ⟨W1,hW1⟩:∃ W1,w.alloc (Obj.cells #[.int .i64 c,.int .i64 n,.int .i64 3,.int .i64 p,.string s,.slice a m cap,.int .i64 tc,.int .i64 tn,.bool on] 44)=W1:=⟨_,rfl⟩;have hX:Below w.heap.size w W1:=by rw [← hW1];exact (bE w.heap.size w).alloc (lR _) _
 have hx0:W1.heap[w.heap.size]?=some (Obj.cells #[.int .i64 c,.int .i64 n,.int .i64 3,.int .i64 p,.string s,.slice a m cap,.int .i64 tc,.int .i64 tn,.bool on] 44):=by rw [← hW1];exact alloc_last _ _ _ rfl
 obtain ⟨y0,y1,y2,y3,y4,y5,y6,y7,y8⟩:=box9k hx0;go_enter Tryz.func43,Tryz.ntmps43;go_wp2_with fail
 (try simp only [hW1])
 (try go_wp2_with fail)
 refine (HO.out _ hX).mono ?_;rintro e w1 ⟨rfl,hb1⟩;have hB1:=hX.trans (hb1.mono hX.size);have hx1:=(hb1.block _ (gA hx0)).trans hx0;clear y0 y1 y2 y3 y4 y5 y6 y7 y8 hb1 hx0 hX hW1 HO;obtain ⟨y0,y1,y2,y3,y4,y5,y6,y7,y8⟩:=box9k hx1;go_wp2_with fail;refine (HN.out _).mono ?_;rintro e w2 ⟨rfl,hb2⟩;have hB2:=hB1.trans (hb2.mono hB1.size);have hx2:=(hb2.block _ (gA hx1)).trans hx1;clear y0 y1 y2 y3 y4 y5 y6 y7 y8 hb2 hx1 HN;obtain ⟨y0,y1,y2,y3,y4,y5,y6,y7,y8⟩:=box9k hx2;have g1:¬ 9223372036854775807<x.size+6:=by omega
 have g2:¬ 9223372036854775807<(x++⟨#[32,115,104,111,119,32]⟩).size+z.size:=by rw [ByteArray.size_append];show ¬ _<x.size+6+z.size;omega
 go_wp2_with fail;refine (HG.out _ hB2).mono ?_;rintro e w3 ⟨rfl,hb3⟩;have hB3:=hB2.trans (hb3.mono hB2.size);clear y0 y1 y2 y3 y4 y5 y6 y7 y8 hb3 hx2 HG;go_wp2_with fail;go_ret2;exact ⟨congrArg (fun b=>Ending.returned (.tuple #[.string b,.int .i64 0])) HR.out,hB3⟩
theorem gPrint_on {c n p:Int} {s:ByteArray} {l:List (Int×Int)} {tc tn:Int} {w:World} {a:Option Addr} {m cap:Nat} (h:Rng w a m cap l) (hs:s.size≤2097152) (hok:ownP ⟨c,n,4,p,s,l,tc,tn,true⟩=0) :
  Calls Tryz.prog 43 #[opVal ⟨c,n,4,p,s,l,tc,tn,true⟩ (.slice a m cap)] w fun e w'=>e=.returned (.tuple #[.string (bs (printP ⟨c,n,4,p,s,l,tc,tn,true⟩)),.int .i64 0])∧Below w.heap.size w w':=by
 have hR:=right_of hok;have hln:=wordB_length hR (by show s.size≤_;omega);have hid:=idP_bd hR.id;simp only at hid;have hil:=idB_length hid.1 hid.2.1 hid.2.2.1 hid.2.2.2;obtain ⟨c,rfl⟩:=Int.eq_ofNat_of_zero_le hid.1;obtain ⟨n,rfl⟩:=Int.eq_ofNat_of_zero_le hid.2.2.1;have htg:=idP_bd (.inr (hR.tgt rfl).1);simp only at htg;have htl:=idB_length htg.1 htg.2.1 htg.2.2.1 htg.2.2.2;obtain ⟨tc,rfl⟩:=Int.eq_ofNat_of_zero_le htg.1;obtain ⟨tn,rfl⟩:=Int.eq_ofNat_of_zero_le htg.2.2.1;have HO:Hid (∀ w':World,Below w.heap.size w w'→Calls Tryz.prog 73 #[opVal ⟨c,n,4,p,s,l,tc,tn,true⟩ (.slice a m cap)] w' fun e w''=>e=.returned (.int .i64 0)∧Below w'.heap.size w' w''):=fun w' hb=>by rw [← hok];exact gOwn_any (o:=⟨c,n,4,p,s,l,tc,tn,true⟩) (h.below hb) hs
 have HN:Hid (∀ w':World,Calls Tryz.prog 78 #[.agg #[.int .i64 (c:Int),.int .i64 (n:Int)]] w' fun e w''=>e=.returned (.string (bs (idB (c:Int) (n:Int))))∧Below w'.heap.size w' w''):=fun w'=>gName_any c n (by omega) (by omega) w'
 have HG:Hid (∀ w':World,Calls Tryz.prog 78 #[.agg #[.int .i64 (tc:Int),.int .i64 (tn:Int)]] w' fun e w''=>e=.returned (.string (bs (idB (tc:Int) (tn:Int))))∧Below w'.heap.size w' w''):=fun w'=>gName_any tc tn (by omega) (by omega) w'
 have HR:Hid (bs (idB (c:Int) (n:Int))++⟨#[32,111,110,32]⟩++bs (idB (tc:Int) (tn:Int))=bs (printP ⟨(c:Int),(n:Int),4,p,s,l,(tc:Int),(tn:Int),true⟩)):=by
  show bs (idB (c:Int) (n:Int))++bs [32,111,110,32]++bs (idB (tc:Int) (tn:Int))=_;rw [bs_append,bs_append];simp [printP,wordB,List.append_assoc]
 rw [← bs_size] at htl;obtain ⟨z,hz⟩:∃ z,bs (idB (tc:Int) (tn:Int))=z:=⟨_,rfl⟩;rw [hz] at htl HG HR;clear hz htg;simp only [opVal] at *;rw [← bs_size] at hil;obtain ⟨x,hx⟩:∃ x,bs (idB (c:Int) (n:Int))=x:=⟨_,rfl⟩;rw [hx] at hil HN HR;clear hx hR hln hok;obtain ⟨W1,hW1⟩:∃ W1,w.alloc (Obj.cells #[.int .i64 c,.int .i64 n,.int .i64 4,.int .i64 p,.string s,.slice a m cap,.int .i64 tc,.int .i64 tn,.bool true] 44)=W1:=⟨_,rfl⟩;have hX:Below w.heap.size w W1:=by rw [← hW1];exact (bE w.heap.size w).alloc (lR _) _
 have hx0:W1.heap[w.heap.size]?=some (Obj.cells #[.int .i64 c,.int .i64 n,.int .i64 4,.int .i64 p,.string s,.slice a m cap,.int .i64 tc,.int .i64 tn,.bool true] 44):=by rw [← hW1];exact alloc_last _ _ _ rfl
 obtain ⟨y0,y1,y2,y3,y4,y5,y6,y7,y8⟩:=box9k hx0;go_enter Tryz.func43,Tryz.ntmps43;go_wp2_with fail
 (try simp only [hW1])
 (try go_wp2_with fail)
 refine (HO.out _ hX).mono ?_;rintro e w1 ⟨rfl,hb1⟩;have hB1:=hX.trans (hb1.mono hX.size);have hx1:=(hb1.block _ (gA hx0)).trans hx0;clear y0 y1 y2 y3 y4 y5 y6 y7 y8 hb1 hx0 hX hW1 HO;obtain ⟨y0,y1,y2,y3,y4,y5,y6,y7,y8⟩:=box9k hx1;go_wp2_with fail;refine (HN.out _).mono ?_;rintro e w2 ⟨rfl,hb2⟩;have hB2:=hB1.trans (hb2.mono hB1.size);have hx2:=(hb2.block _ (gA hx1)).trans hx1;clear y0 y1 y2 y3 y4 y5 y6 y7 y8 hb2 hx1 HN;obtain ⟨y0,y1,y2,y3,y4,y5,y6,y7,y8⟩:=box9k hx2;have g1:¬ 9223372036854775807<x.size+4:=by omega
 have g2:¬ 9223372036854775807<(x++⟨#[32,111,110,32]⟩).size+z.size:=by rw [ByteArray.size_append];show ¬ _<x.size+4+z.size;omega
 go_wp2_with fail;refine (HG.out _).mono ?_;rintro e w3 ⟨rfl,hb3⟩;have hB3:=hB2.trans (hb3.mono hB2.size);clear y0 y1 y2 y3 y4 y5 y6 y7 y8 hb3 hx2 HG;go_wp2_with fail;go_ret2;exact ⟨congrArg (fun b=>Ending.returned (.tuple #[.string b,.int .i64 0])) HR.out,hB3⟩
theorem gPrint_off {c n p:Int} {s:ByteArray} {l:List (Int×Int)} {tc tn:Int} {w:World} {a:Option Addr} {m cap:Nat} (h:Rng w a m cap l) (hs:s.size≤2097152) (hok:ownP ⟨c,n,4,p,s,l,tc,tn,false⟩=0) :
  Calls Tryz.prog 43 #[opVal ⟨c,n,4,p,s,l,tc,tn,false⟩ (.slice a m cap)] w fun e w'=>e=.returned (.tuple #[.string (bs (printP ⟨c,n,4,p,s,l,tc,tn,false⟩)),.int .i64 0])∧Below w.heap.size w w':=by
 have hR:=right_of hok;have hln:=wordB_length hR (by show s.size≤_;omega);have hid:=idP_bd hR.id;simp only at hid;have hil:=idB_length hid.1 hid.2.1 hid.2.2.1 hid.2.2.2;obtain ⟨c,rfl⟩:=Int.eq_ofNat_of_zero_le hid.1;obtain ⟨n,rfl⟩:=Int.eq_ofNat_of_zero_le hid.2.2.1;have htg:=idP_bd (.inr (hR.tgt rfl).1);simp only at htg;have htl:=idB_length htg.1 htg.2.1 htg.2.2.1 htg.2.2.2;obtain ⟨tc,rfl⟩:=Int.eq_ofNat_of_zero_le htg.1;obtain ⟨tn,rfl⟩:=Int.eq_ofNat_of_zero_le htg.2.2.1;have HO:Hid (∀ w':World,Below w.heap.size w w'→Calls Tryz.prog 73 #[opVal ⟨c,n,4,p,s,l,tc,tn,false⟩ (.slice a m cap)] w' fun e w''=>e=.returned (.int .i64 0)∧Below w'.heap.size w' w''):=fun w' hb=>by rw [← hok];exact gOwn_any (o:=⟨c,n,4,p,s,l,tc,tn,false⟩) (h.below hb) hs
 have HN:Hid (∀ w':World,Calls Tryz.prog 78 #[.agg #[.int .i64 (c:Int),.int .i64 (n:Int)]] w' fun e w''=>e=.returned (.string (bs (idB (c:Int) (n:Int))))∧Below w'.heap.size w' w''):=fun w'=>gName_any c n (by omega) (by omega) w'
 have HG:Hid (∀ w':World,Calls Tryz.prog 78 #[.agg #[.int .i64 (tc:Int),.int .i64 (tn:Int)]] w' fun e w''=>e=.returned (.string (bs (idB (tc:Int) (tn:Int))))∧Below w'.heap.size w' w''):=fun w'=>gName_any tc tn (by omega) (by omega) w'
 have HR:Hid (bs (idB (c:Int) (n:Int))++⟨#[32,111,102,102,32]⟩++bs (idB (tc:Int) (tn:Int))=bs (printP ⟨(c:Int),(n:Int),4,p,s,l,(tc:Int),(tn:Int),false⟩)):=by
  show bs (idB (c:Int) (n:Int))++bs [32,111,102,102,32]++bs (idB (tc:Int) (tn:Int))=_;rw [bs_append,bs_append];simp [printP,wordB,List.append_assoc]
 rw [← bs_size] at htl;obtain ⟨z,hz⟩:∃ z,bs (idB (tc:Int) (tn:Int))=z:=⟨_,rfl⟩;rw [hz] at htl HG HR;clear hz htg;simp only [opVal] at *;rw [← bs_size] at hil;obtain ⟨x,hx⟩:∃ x,bs (idB (c:Int) (n:Int))=x:=⟨_,rfl⟩;rw [hx] at hil HN HR;clear hx hR hln hok;obtain ⟨W1,hW1⟩:∃ W1,w.alloc (Obj.cells #[.int .i64 c,.int .i64 n,.int .i64 4,.int .i64 p,.string s,.slice a m cap,.int .i64 tc,.int .i64 tn,.bool false] 44)=W1:=⟨_,rfl⟩;have hX:Below w.heap.size w W1:=by rw [← hW1];exact (bE w.heap.size w).alloc (lR _) _
 have hx0:W1.heap[w.heap.size]?=some (Obj.cells #[.int .i64 c,.int .i64 n,.int .i64 4,.int .i64 p,.string s,.slice a m cap,.int .i64 tc,.int .i64 tn,.bool false] 44):=by rw [← hW1];exact alloc_last _ _ _ rfl
 obtain ⟨y0,y1,y2,y3,y4,y5,y6,y7,y8⟩:=box9k hx0;go_enter Tryz.func43,Tryz.ntmps43;go_wp2_with fail
 (try simp only [hW1])
 (try go_wp2_with fail)
 refine (HO.out _ hX).mono ?_;rintro e w1 ⟨rfl,hb1⟩;have hB1:=hX.trans (hb1.mono hX.size);have hx1:=(hb1.block _ (gA hx0)).trans hx0;clear y0 y1 y2 y3 y4 y5 y6 y7 y8 hb1 hx0 hX hW1 HO;obtain ⟨y0,y1,y2,y3,y4,y5,y6,y7,y8⟩:=box9k hx1;go_wp2_with fail;refine (HN.out _).mono ?_;rintro e w2 ⟨rfl,hb2⟩;have hB2:=hB1.trans (hb2.mono hB1.size);have hx2:=(hb2.block _ (gA hx1)).trans hx1;clear y0 y1 y2 y3 y4 y5 y6 y7 y8 hb2 hx1 HN;obtain ⟨y0,y1,y2,y3,y4,y5,y6,y7,y8⟩:=box9k hx2;have g1:¬ 9223372036854775807<x.size+5:=by omega
 have g2:¬ 9223372036854775807<(x++⟨#[32,111,102,102,32]⟩).size+z.size:=by rw [ByteArray.size_append];show ¬ _<x.size+5+z.size;omega
 go_wp2_with fail;refine (HG.out _).mono ?_;rintro e w3 ⟨rfl,hb3⟩;have hB3:=hB2.trans (hb3.mono hB2.size);clear y0 y1 y2 y3 y4 y5 y6 y7 y8 hb3 hx2 HG;go_wp2_with fail;go_ret2;exact ⟨congrArg (fun b=>Ending.returned (.tuple #[.string b,.int .i64 0])) HR.out,hB3⟩
theorem gPrint_ins {c n p:Int} {s:ByteArray} {l:List (Int×Int)} {tc tn:Int} {on:Bool} {w:World} {a:Option Addr} {m cap:Nat} (h:Rng w a m cap l) (hs:s.size≤2097152) (hok:ownP ⟨c,n,1,p,s,l,tc,tn,on⟩=0) :
  Calls Tryz.prog 43 #[opVal ⟨c,n,1,p,s,l,tc,tn,on⟩ (.slice a m cap)] w fun e w'=>e=.returned (.tuple #[.string (bs (printP ⟨c,n,1,p,s,l,tc,tn,on⟩)),.int .i64 0])∧Below w.heap.size w w':=by
 have hR:=right_of hok;have hln:=wordB_length hR (by show s.size≤_;omega);have hid:=idP_bd hR.id;simp only at hid;have hil:=idB_length hid.1 hid.2.1 hid.2.2.1 hid.2.2.2;obtain ⟨c,rfl⟩:=Int.eq_ofNat_of_zero_le hid.1;obtain ⟨n,rfl⟩:=Int.eq_ofNat_of_zero_le hid.2.2.1;have hin:=hR.ins rfl;simp only at hin;obtain ⟨p,rfl⟩:=Int.eq_ofNat_of_zero_le hin.1;have hdl:=dec_le p (by omega);have hql:=quoted_le s;have HO:Hid (∀ w':World,Below w.heap.size w w'→Calls Tryz.prog 73 #[opVal ⟨c,n,1,p,s,l,tc,tn,on⟩ (.slice a m cap)] w' fun e w''=>e=.returned (.int .i64 0)∧Below w'.heap.size w' w''):=fun w' hb=>by rw [← hok];exact gOwn_any (o:=⟨c,n,1,p,s,l,tc,tn,on⟩) (h.below hb) hs
 have HN:Hid (∀ w':World,Calls Tryz.prog 78 #[.agg #[.int .i64 (c:Int),.int .i64 (n:Int)]] w' fun e w''=>e=.returned (.string (bs (idB (c:Int) (n:Int))))∧Below w'.heap.size w' w''):=fun w'=>gName_any c n (by omega) (by omega) w'
 have HD:Hid (∀ w':World,Calls Tryz.prog 79 #[.int .i64 (p:Int)] w' fun e w''=>e=.returned (.string (bs (Lib.decDigits p)))∧w''=w'):=fun w'=>gDigits_any p (by omega) w'
 have HQ:Hid (∀ w':World,Calls Tryz.prog 80 #[.string s] w' fun e w''=>e=.returned (.string (bs (quoted s)))∧Below w'.heap.size w' w''):=fun w'=>refQuote_any s (by omega) w'
 have HR:Hid (bs (idB (c:Int) (n:Int))++⟨#[32,105,110,115,32]⟩++bs (Lib.decDigits p)++⟨#[32]⟩++bs (quoted s)=bs (printP ⟨(c:Int),(n:Int),1,(p:Int),s,l,tc,tn,on⟩)):=by
  show bs (idB (c:Int) (n:Int))++bs [32,105,110,115,32]++bs (Lib.decDigits p)++bs [32]++bs (quoted s)=_;rw [bs_append,bs_append,bs_append,bs_append];simp [printP,wordB,insB,Lib.itoa_nonneg,List.append_assoc]
 rw [← bs_size] at hdl hql;obtain ⟨z,hz⟩:∃ z,bs (Lib.decDigits p)=z:=⟨_,rfl⟩;obtain ⟨q,hq⟩:∃ q,bs (quoted s)=q:=⟨_,rfl⟩;rw [hz] at hdl HD HR;rw [hq] at hql HQ HR;clear hz hq hin;simp only [opVal] at *;rw [← bs_size] at hil;obtain ⟨x,hx⟩:∃ x,bs (idB (c:Int) (n:Int))=x:=⟨_,rfl⟩;rw [hx] at hil HN HR;clear hx hR hln hok;obtain ⟨W1,hW1⟩:∃ W1,w.alloc (Obj.cells #[.int .i64 c,.int .i64 n,.int .i64 1,.int .i64 p,.string s,.slice a m cap,.int .i64 tc,.int .i64 tn,.bool on] 44)=W1:=⟨_,rfl⟩;have hX:Below w.heap.size w W1:=by rw [← hW1];exact (bE w.heap.size w).alloc (lR _) _
 have hx0:W1.heap[w.heap.size]?=some (Obj.cells #[.int .i64 c,.int .i64 n,.int .i64 1,.int .i64 p,.string s,.slice a m cap,.int .i64 tc,.int .i64 tn,.bool on] 44):=by rw [← hW1];exact alloc_last _ _ _ rfl
 obtain ⟨y0,y1,y2,y3,y4,y5,y6,y7,y8⟩:=box9k hx0;go_enter Tryz.func43,Tryz.ntmps43;go_wp2_with fail
 (try simp only [hW1])
 (try go_wp2_with fail)
 refine (HO.out _ hX).mono ?_;rintro e w1 ⟨rfl,hb1⟩;have hB1:=hX.trans (hb1.mono hX.size);have hx1:=(hb1.block _ (gA hx0)).trans hx0;clear y0 y1 y2 y3 y4 y5 y6 y7 y8 hb1 hx0 hX hW1 HO;obtain ⟨y0,y1,y2,y3,y4,y5,y6,y7,y8⟩:=box9k hx1;go_wp2_with fail;refine (HN.out _).mono ?_;rintro e w2 ⟨rfl,hb2⟩;have hB2:=hB1.trans (hb2.mono hB1.size);have hx2:=(hb2.block _ (gA hx1)).trans hx1;clear y0 y1 y2 y3 y4 y5 y6 y7 y8 hb2 hx1 HN;obtain ⟨y0,y1,y2,y3,y4,y5,y6,y7,y8⟩:=box9k hx2;have g1:¬ 9223372036854775807<x.size+5:=by omega
 have s1:(x++⟨#[32,105,110,115,32]⟩).size=x.size+5:=by rw [ByteArray.size_append];rfl
 have s2:(x++⟨#[32,105,110,115,32]⟩++z).size=x.size+5+z.size:=by rw [ByteArray.size_append,s1]
 have s3:(x++⟨#[32,105,110,115,32]⟩++z++⟨#[32]⟩).size=x.size+5+z.size+1:=by rw [ByteArray.size_append,s2];rfl
 have g2:¬ 9223372036854775807<(x++⟨#[32,105,110,115,32]⟩).size+z.size:=by rw [s1];omega
 have g3:¬ 9223372036854775807<(x++⟨#[32,105,110,115,32]⟩++z).size+1:=by rw [s2];omega
 have g4:¬ 9223372036854775807<(x++⟨#[32,105,110,115,32]⟩++z++⟨#[32]⟩).size+q.size:=by rw [s3];omega
 clear s1 s2 s3;have g5:¬ 9223372036854775807<x.size+5+z.size:=by omega
 have g6:¬ 9223372036854775807<x.size+5+z.size+1:=by omega
 have g7:¬ 9223372036854775807<x.size+5+z.size+1+q.size:=by omega
 have hx3:w2.drew.heap[w.heap.size]?=some (Obj.cells #[.int .i64 c,.int .i64 n,.int .i64 1,.int .i64 p,.string s,.slice a m cap,.int .i64 tc,.int .i64 tn,.bool on] 44):=hx2;have k0:=box34 hx3;go_wp2_with fail;refine wp_region_E (S:=(fun w'=>w'.cell? ⟨w.heap.size,3,none⟩=some (.int .i64 (p:Int))∧w'.cell? ⟨w.heap.size,4,none⟩=some (.string s))) (E:=[]) (by kernel_rfl) ?_;refine takeE (i:=0) (d:=some 20) (v:=?vT36) rfl rfl (by kernel_rfl) (by kernel_rfl) (by kernel_rfl) (by kernel_rfl) (fun _ _ _ h=>h) (Or.inl ⟨by rfl,?hyT36⟩) k0 ?rstT36
 case hyT36=>(intro w hSw;(try dsimp only at hSw);obtain ⟨z0,z1⟩:=hSw;go_simp;(try with_reducible rfl))
 try simp only [putS]
 refine takeE (i:=1) (d:=some 21) (v:=?vT37) rfl rfl (by kernel_rfl) (by kernel_rfl) (by kernel_rfl) (by kernel_rfl) (fun _ _ _ h=>h) (Or.inl ⟨by rfl,?hyT37⟩) k0 ?rstT37
 case hyT37=>(intro w hSw;(try dsimp only at hSw);obtain ⟨z0,z1⟩:=hSw;go_simp;(try with_reducible rfl))
 try simp only [putS]
 refine takeE (i:=2) (d:=some 22) (v:=?vT38) rfl rfl (by kernel_rfl) (by kernel_rfl) (by kernel_rfl) (by kernel_rfl) (fun _ _ _ h=>h) (Or.inl ⟨by rfl,?hyT38⟩) k0 ?rstT38
 case hyT38=>(intro w hSw;(try dsimp only at hSw);obtain ⟨z0,z1⟩:=hSw;go_simp;(try with_reducible rfl))
 try simp only [putS]
 refine takeE (i:=3) (d:=some 23) (v:=?vT39) rfl rfl (by kernel_rfl) (by kernel_rfl) (by kernel_rfl) (by kernel_rfl) (fun _ _ _ h=>h) (Or.inl ⟨by rfl,?hyT39⟩) k0 ?rstT39
 case hyT39=>(intro w hSw;(try dsimp only at hSw);obtain ⟨z0,z1⟩:=hSw;go_simp;(try with_reducible rfl))
 try simp only [putS]
 refine takeE (i:=7) (d:=some 27) (v:=?vT40) rfl rfl (by kernel_rfl) (by kernel_rfl) (by kernel_rfl) (by kernel_rfl) (fun _ _ _ h=>h) (Or.inl ⟨by rfl,?hyT40⟩) k0 ?rstT40
 case hyT40=>(intro w hSw;(try dsimp only at hSw);obtain ⟨z0,z1⟩:=hSw;go_simp;(try with_reducible rfl))
 try simp only [putS]
 refine takeE (i:=8) (d:=some 28) (v:=?vT41) rfl rfl (by kernel_rfl) (by kernel_rfl) (by kernel_rfl) (by kernel_rfl) (fun _ _ _ h=>h) (Or.inl ⟨by rfl,?hyT41⟩) k0 ?rstT41
 case hyT41=>(intro w hSw;(try dsimp only at hSw);obtain ⟨z0,z1⟩:=hSw;go_simp;(try with_reducible rfl))
 try simp only [putS]
 refine oneE (i:=4) (by kernel_rfl) rfl (fun K hK=>?_);go_simp;refine (HD.out _).mono ?_;rintro e w3 ⟨rfl,hw⟩;obtain rfl:=hw.symm;clear hw;dsimp only;refine hK.out _ _ ?hS42 ?rest42
 case hS42=>exact fun _=>k0
 clear hK K
 try simp only [putS]
 refine takeE (i:=5) (d:=some 25) (v:=?vT43) rfl rfl (by kernel_rfl) (by kernel_rfl) (by kernel_rfl) (by kernel_rfl) (fun _ _ _ h=>h) (Or.inl ⟨by rfl,?hyT43⟩) k0 ?rstT43
 case hyT43=>(intro w hSw;(try dsimp only at hSw);skip;go_simp;(try with_reducible rfl))
 try simp only [putS]
 refine takeE (i:=6) (d:=some 26) (v:=?vT44) rfl rfl (by kernel_rfl) (by kernel_rfl) (by kernel_rfl) (by kernel_rfl) (fun _ _ _ h=>h) (Or.inl ⟨by rfl,?hyT44⟩) k0 ?rstT44
 case hyT44=>(intro w hSw;(try dsimp only at hSw);skip;go_simp;(try with_reducible rfl))
 try simp only [putS]
 refine oneE (i:=9) (by kernel_rfl) rfl (fun K hK=>?_);go_simp;refine (HQ.out _).mono ?_;rintro e w3 ⟨rfl,hb3⟩;have k1:=box34 (hb3.block _ (gA hx3) |>.trans hx3);have hB3:=hB2.drew.trans (hb3.mono hB2.drew.size);clear hb3;dsimp only;refine hK.out _ _ ?hS45 ?rest45
 case hS45=>exact fun _=>k1
 clear hK K
 try simp only [putS]
 refine takeE (i:=10) (d:=some 30) (v:=?vT46) rfl rfl (by kernel_rfl) (by kernel_rfl) (by kernel_rfl) (by kernel_rfl) (fun _ _ _ h=>h) (Or.inl ⟨by rfl,?hyT46⟩) k1 ?rstT46
 case hyT46=>(intro w hSw;(try dsimp only at hSw);skip;go_simp;(try with_reducible rfl))
 try simp only [putS]
 refine oneE (i:=11) (by kernel_rfl) rfl (fun K hK=>?_);go_simp;refine hK.out _ _ ?hS47 ?rest47
 case hS47=>exact fun _=>k1
 clear hK K
 try simp only [putS]
 refine oneE (i:=12) (by kernel_rfl) rfl (fun K hK=>?_);go_simp;refine hK.out _ _ ?hS48 ?rest48
 case hS48=>exact fun _=>k1
 clear hK K
 try simp only [putS]
 refine doneE (by kernel_rfl) ?_ _;go_wp2_with fail;go_ret2;exact ⟨congrArg (fun b=>Ending.returned (.tuple #[.string b,.int .i64 0])) HR.out,hB3⟩
def spanN (c:UInt8):List UInt8→Nat
 | []=>0
 | b::r=>if b=c then 0 else 1+spanN c r
theorem spanN_le (c:UInt8) (l:List UInt8):spanN c l≤l.length:=by
 induction l with
 | nil=>exact lR _
 | cons b r ih=>unfold spanN;split<;>simp only [List.length_cons]<;>omega
theorem drop_at (s:ByteArray) (k:Nat) (h:k<s.size):s.data.toList.drop k=(s[k]'h)::s.data.toList.drop (k+1):=by
 rw [List.drop_eq_getElem_cons (by rw [← size_data];exact h)];rfl
theorem gWord_any (s:ByteArray) (hs:s.size≤9223372036854775807) (i:Nat) (hi:i≤s.size) (c:UInt8) (w:World) :
  Calls Tryz.prog 110 #[.string s,.int .i64 (i:Int),.int .u8 (c.toNat:Int)] w fun e w'=>e=.returned (.tuple #[.string (s.extract i (i+spanN c (s.data.toList.drop i))),.int .i64 ((i+spanN c (s.data.toList.drop i):Nat):Int)])∧w'=w:=by
 have h1:¬ (s.size:Int)<(i:Int):=by omega
 obtain ⟨j,hj⟩:∃ j,i+spanN c (s.data.toList.drop i)=j:=⟨_,rfl⟩;rw [hj];have HJ:Hid (i+spanN c (s.data.toList.drop i)=j):=hj;clear hj;go_enter Tryz.func110,Tryz.ntmps110;go_wp2_with fail;go_loopw [8] (fun k wr=>∃ kk:Nat,k=.int .i64 (kk:Int)∧wr=w∧i≤kk∧kk≤s.size∧Hid (kk+spanN c (s.data.toList.drop kk)=j)) (fun k _=>s.size-(RowKit.intOf k).toNat)
 case atStart=>exact ⟨i,rfl,rfl,lR _,hi,HJ.out⟩
 case round =>
  obtain ⟨k,rfl,hw,hik,hks,hI⟩:=hrel;obtain rfl:=hw.symm;clear hw;by_cases hp:k<s.size
  ·have g1:(k:Int)<(s.size:Int):=by omega
   have hdr:=drop_at s k hp;by_cases hc:s[k]'hp=c
   ·have HE:Hid (k=j):=by
     have:=hI.out;rw [hdr,spanN,if_pos hc] at this;exact this
    have hc2:(((s[k]'hp).toNat:Int)==(c.toNat:Int))=true:=by rw [hc];exact beq_self_eq_true _
    clear hdr hI;go_wp2_with fail;go_ret2;exact ⟨by rw [HE.out];rfl,rfl⟩
   ·have HE:Hid (k+1+spanN c (s.data.toList.drop (k+1))=j):=by
     have:=hI.out;rw [hdr,spanN,if_neg hc] at this;show _=_;omega
    have hc2:(((s[k]'hp).toNat:Int)==(c.toNat:Int))=false:=nB fun e=>hc (UInt8.toNat_inj.1 (by omega))
    clear hdr hI;go_wp2_with fail;exact ⟨⟨k+1,rfl,trivial,by omega,by omega,HE⟩,by simp only [RowKit.intOf];omega⟩
  ·have g1:¬ (k:Int)<(s.size:Int):=by omega
   have HE:Hid (k=j):=by
    have:=hI.out;rw [List.drop_eq_nil_of_le (by rw [← size_data];omega)] at this;exact this
   clear hI;go_wp2_with fail;go_ret2;exact ⟨by rw [HE.out];rfl,rfl⟩
theorem gWord_past (s:ByteArray) (_hs:s.size≤9223372036854775807) (i:Nat) (hi:s.size<i) (_hi2:i≤9223372036854775807) (c:UInt8) (w:World) :
  Calls Tryz.prog 110 #[.string s,.int .i64 (i:Int),.int .u8 (c.toNat:Int)] w fun e w'=>e=.returned (.tuple #[.string ⟨#[]⟩,.int .i64 (s.size:Int)])∧w'=w:=by
 have h1:(s.size:Int)<(i:Int):=by omega
 go_enter Tryz.func110,Tryz.ntmps110;go_wp2_with fail;go_ret2;exact ⟨rfl,rfl⟩
def numGF:List UInt8→Int→Int
 | [],n=>n
 | b::r,n=>if b.toNat<48∨57<b.toNat then -1 else numGF r (10*n+((b.toNat:Int)-48))
def numG (l:List UInt8):Int:=if l.length=0∨7<l.length then -1 else numGF l 0
theorem gNumber_any (s:ByteArray) (hs:s.size≤9223372036854775807) (w:World) :
  Calls Tryz.prog 112 #[.string s] w fun e w'=>e=.returned (.int .i64 (numG s.data.toList))∧w'=w:=by
 obtain ⟨v,hv⟩:∃ v,numG s.data.toList=v:=⟨_,rfl⟩;rw [hv];unfold numG at hv;rw [← size_data] at hv;by_cases h0:s.size=0
 ·have g0:(s.size:Int)=0:=by omega
  have g1:((s.size:Int)==0)=true:=by rw [g0];rfl
  rw [if_pos (.inl h0)] at hv;subst hv;go_enter Tryz.func112,Tryz.ntmps112;go_wp2_with fail;go_ret;exact ⟨rfl,rfl⟩
 have g0:((s.size:Int)==0)=false:=nB (by omega);by_cases h7:7<s.size
 ·have g1:(7:Int)<(s.size:Int):=by omega
  rw [if_pos (.inr h7)] at hv;subst hv;go_enter Tryz.func112,Tryz.ntmps112;go_wp2_with fail;go_ret;exact ⟨rfl,rfl⟩
 have g1:¬ (7:Int)<(s.size:Int):=by omega
 rw [if_neg (by omega)] at hv;have HV:Hid (numGF s.data.toList 0=v):=hv;clear hv;go_enter Tryz.func112,Tryz.ntmps112;go_wp2_with fail;go_loopw [3,4] (fun v3 v4 wr=>∃ (x:Int) (i:Nat),v3=.int .i64 x∧v4=.int .i64 (i:Int)∧wr=w∧i≤s.size∧(0≤x∧x<10 ^ i)∧Hid (numGF (s.data.toList.drop i) x=v)) (fun _ v4 _=>s.size-(RowKit.intOf v4).toNat)
 case atStart=>exact ⟨0,0,rfl,rfl,rfl,Nat.zero_le _,by decide,HV.out⟩
 case round =>
  obtain ⟨x,i,rfl,rfl,hw,his,hx,hI⟩:=hrel;obtain rfl:=hw.symm;clear hw HV;by_cases hp:i<s.size
  ·have g2:(i:Int)<(s.size:Int):=by omega
   have hdr:=drop_at s i hp;have hI2:=hI.out;rw [hdr,numGF] at hI2;obtain ⟨b,hb⟩:∃ b,s[i]'hp=b:=⟨_,rfl⟩;rw [hb] at hI2;have hb2:=b.toNat_lt;have hx10:x<10000000:=by
    have h1:=hx.2;have:i=0∨i=1∨i=2∨i=3∨i=4∨i=5∨i=6:=by omega
    clear hI hdr hI2;rcases this with rfl|rfl|rfl|rfl|rfl|rfl|rfl<;>simp at h1<;>omega
   by_cases hd1:b.toNat<48
   ·rw [if_pos (.inl hd1)] at hI2;subst hI2;have q1:(b.toNat:Int)<48:=by omega
    clear hI hdr;go_wp2_with fail;go_ret;exact ⟨rfl,rfl⟩
   have q1:¬ (b.toNat:Int)<48:=by omega
   by_cases hd2:57<b.toNat
   ·rw [if_pos (.inr hd2)] at hI2;subst hI2;have q2:(57:Int)<(b.toNat:Int):=by omega
    clear hI hdr;go_wp2_with fail;go_ret;exact ⟨rfl,rfl⟩
   have q2:¬ (57:Int)<(b.toNat:Int):=by omega
   rw [if_neg (by omega)] at hI2;have HI2:Hid (numGF (s.data.toList.drop (i+1)) (10*x+((b.toNat:Int)-48))=v):=hI2;have HX:Hid (0≤10*x+((b.toNat:Int)-48)∧10*x+((b.toNat:Int)-48)<10 ^ (i+1)):=by
    refine ⟨by omega,?_⟩;have:(10:Int) ^ (i+1)=10 ^ i*10:=Int.pow_succ _ _;omega
   have k1:IntKind.u8.wrap ((b.toNat:Int)-48)=(b.toNat:Int)-48:=by show ((b.toNat:Int)-48) % 256=_;omega
   have k2:IntKind.i64.wrap ((b.toNat:Int)-48)=(b.toNat:Int)-48:=IntWalk.i64_in _ (by omega);have k3:IntKind.i64.wrap (10*x)=10*x:=IntWalk.i64_in _ (by omega);have k4:IntKind.i64.wrap (10*x+((b.toNat:Int)-48))=10*x+((b.toNat:Int)-48):=IntWalk.i64_in _ (by omega);clear hI hdr hI2 hx;go_wp2_with fail;exact ⟨⟨_,i+1,rfl,rfl,trivial,by omega,HX.out,HI2⟩,by simp only [RowKit.intOf];omega⟩
  ·have g2:¬ (i:Int)<(s.size:Int):=by omega
   have HE:Hid (x=v):=by
    have:=hI.out;rw [List.drop_eq_nil_of_le (by rw [← size_data];omega)] at this;exact this
   clear hI hx;go_wp2_with fail;go_ret;exact ⟨by rw [HE.out];rfl,rfl⟩
def pairG (c:UInt8) (l:List UInt8):Int×Int:=(numG (l.take (spanN c l)),if l.length≤spanN c l then -1 else numG (l.drop (spanN c l+1)))
theorem ext_take (s:ByteArray) (k:Nat):(s.extract 0 k).data.toList=s.data.toList.take k:=by
 simp [ByteArray.data_extract]
theorem ext_mid (s:ByteArray) (i k:Nat):(s.extract i k).data.toList=(s.data.toList.drop i).take (k-i):=by
 simp [ByteArray.data_extract,List.extract_eq_take_drop]
theorem ext_drop (s:ByteArray) (k:Nat):(s.extract k s.size).data.toList=s.data.toList.drop k:=by
 rw [ext_mid,List.take_of_length_le (by rw [List.length_drop,← size_data];exact lR _)]
theorem ext_size (s:ByteArray) (i k:Nat):(s.extract i k).size≤s.size:=by
 rw [size_data,ext_mid,List.length_take,List.length_drop,← size_data];omega
theorem gPair_any (s:ByteArray) (hs:s.size≤9223372036854775806) (c:UInt8) (w:World) :
  Calls Tryz.prog 111 #[.string s,.int .u8 (c.toNat:Int)] w fun e w'=>e=.returned (.tuple #[.int .i64 (pairG c s.data.toList).1,.int .i64 (pairG c s.data.toList).2])∧w'=w:=by
 have hW:=gWord_any s (by omega) 0 (by omega) c w;rw [List.drop_zero,Nat.zero_add] at hW;have hle:=spanN_le c s.data.toList;rw [← size_data] at hle;unfold pairG;rw [← size_data];obtain ⟨j,hj⟩:∃ j,spanN c s.data.toList=j:=⟨_,rfl⟩;rw [hj] at hW hle ⊢;have hN1:=gNumber_any (s.extract 0 j) (Nat.le_trans (ext_size s 0 j) (by omega)) w;rw [ext_take] at hN1;have HW:Hid (Calls Tryz.prog 110 #[.string s,.int .i64 0,.int .u8 (c.toNat:Int)] w fun e w'=>e=.returned (.tuple #[.string (s.extract 0 j),.int .i64 (j:Int)])∧w'=w):=hW;obtain ⟨v1,hv1⟩:∃ v,numG (s.data.toList.take j)=v:=⟨_,rfl⟩;rw [hv1] at hN1 ⊢;have HN1:Hid (Calls Tryz.prog 112 #[.string (s.extract 0 j)] w fun e w'=>e=.returned (.int .i64 v1)∧w'=w):=hN1;clear hN1 hW hj hv1;by_cases hk:s.size≤j
 ·have g1:(s.size:Int)≤(j:Int):=by omega
  rw [if_pos hk];go_enter Tryz.func111,Tryz.ntmps111;go_wp2_with fail;refine HW.out.mono ?_;rintro e w3 ⟨rfl,hw⟩;obtain rfl:=hw.symm;clear hw;go_wp2_with fail;refine HN1.out.mono ?_;rintro e w3 ⟨rfl,hw⟩;obtain rfl:=hw.symm;clear hw;go_wp2_with fail;go_ret2;exact ⟨rfl,rfl⟩
 ·have g1:¬ (s.size:Int)≤(j:Int):=by omega
  rw [if_neg hk];have hN2:=gNumber_any (s.extract (j+1) s.size) (Nat.le_trans (ext_size s _ _) (by omega)) w;rw [ext_drop] at hN2;obtain ⟨v2,hv2⟩:∃ v,numG (s.data.toList.drop (j+1))=v:=⟨_,rfl⟩;rw [hv2] at hN2 ⊢;have HN2:Hid (Calls Tryz.prog 112 #[.string (s.extract (j+1) s.size)] w fun e w'=>e=.returned (.int .i64 v2)∧w'=w):=hN2;clear hN2 hv2;go_enter Tryz.func111,Tryz.ntmps111;go_wp2_with fail;refine HW.out.mono ?_;rintro e w3 ⟨rfl,hw⟩;obtain rfl:=hw.symm;clear hw;go_wp2_with fail;refine HN1.out.mono ?_;rintro e w3 ⟨rfl,hw⟩;obtain rfl:=hw.symm;clear hw;go_wp2_with fail;refine HN2.out.mono ?_;rintro e w3 ⟨rfl,hw⟩;obtain rfl:=hw.symm;clear hw;go_wp2_with fail;go_ret2;exact ⟨rfl,rfl⟩
theorem bs_listk (l:List UInt8):(bs l).data.toList=l:=rfl
theorem bs_of (s:ByteArray):bs s.data.toList=s:=rfl
theorem bs_ext (l:List UInt8) (i k:Nat):(bs l).extract i k=bs ((l.drop i).take (k-i)):=by
 rw [← bs_of ((bs l).extract i k),ext_mid,bs_listk]
def wordG (c:UInt8) (l:List UInt8) (i:Nat):List UInt8×Nat:=if l.length<i then ([],l.length) else ((l.drop i).take (spanN c (l.drop i)),i+spanN c (l.drop i))
theorem wordG_le (c:UInt8) (l:List UInt8) (i:Nat):(wordG c l i).1.length≤l.length∧(wordG c l i).2≤l.length:=by
 unfold wordG;split
 ·simp
 ·have:=spanN_le c (l.drop i);rw [List.length_drop] at this;refine ⟨?_,by simp only;omega⟩;simp only [List.length_take,List.length_drop];omega
theorem gWord_G (c:UInt8) (l:List UInt8) (hl:l.length≤9223372036854775806) (i:Nat) (hi:i≤9223372036854775807) (w:World) :
  Calls Tryz.prog 110 #[.string (bs l),.int .i64 (i:Int),.int .u8 (c.toNat:Int)] w fun e w'=>e=.returned (.tuple #[.string (bs (wordG c l i).1),.int .i64 ((wordG c l i).2:Int)])∧w'=w:=by
 unfold wordG;split
 ·rename_i h
  have:=gWord_past (bs l) (by rw [bs_size];omega) i (by rw [bs_size];exact h) hi c w;rw [bs_size] at this;exact this
 ·rename_i h
  have:=gWord_any (bs l) (by rw [bs_size];omega) i (by rw [bs_size];omega) c w;rw [bs_listk,bs_ext,Nat.add_sub_cancel_left] at this;exact this
theorem gNumber_G (l:List UInt8) (hl:l.length≤9223372036854775806) (w:World) :
  Calls Tryz.prog 112 #[.string (bs l)] w fun e w'=>e=.returned (.int .i64 (numG l))∧w'=w:=gNumber_any (bs l) (by rw [bs_size];omega) w
theorem gPair_G (c:UInt8) (l:List UInt8) (hl:l.length≤9223372036854775806) (w:World) :
  Calls Tryz.prog 111 #[.string (bs l),.int .u8 (c.toNat:Int)] w fun e w'=>e=.returned (.tuple #[.int .i64 (pairG c l).1,.int .i64 (pairG c l).2])∧w'=w:=gPair_any (bs l) (by rw [bs_size];omega) c w
def idG (l:List UInt8):Int×Int:=if l=[45] then (0,0) else pairG 46 l
def restG (l:List UInt8) (k:Nat):List UInt8:=l.drop (k+1)
end Go.Proofs.YtijpfbcippijoaaGreatDoor
