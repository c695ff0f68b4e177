import Derived.Test.YtmeciikfnbbllaaGreatDoorAl
import Derived.Test.YtmeciikfnbbllaaGreatDoorRef
import Derived.Test.YtmeciikfnbbllaaGreatDoorRef4
import Derived.Test.YtmeciikfnbbllaaGreatDoorGr51
import Derived.Test.YtmeciikfnbbllaaGreatDoorGr62
import Derived.Test.YtmeciikfnbbllaaGreatDoorOgB
import Derived.Test.YtmeciikfnbbllaaGreatDoorGr65
set_option maxHeartbeats 2000000
set_option maxRecDepth 100000
namespace Go.Proofs.YtmeciikfnbbllaaGreatDoor
open Go.RowKit Go.Lib
theorem beqI_true {a b:Int} (h:a=b):(a==b)=true:=beq_iff_eq.2 h
theorem beqI_false {a b:Int} (h:¬ a=b):(a==b)=false:=nB h
theorem bneI_true {a b:Int} (h:¬ a=b):(a != b)=true:=by simp [h]
theorem bneI_false {a b:Int} (h:a=b):(a != b)=false:=by simp [h]
theorem seq_any (s:ByteArray) (hs:s.size≤9223372036854775000) (i:Nat) (hi:i<s.size) (w:World) :
  Calls Tryz.prog 109 #[.string s,.int .i64 i] w fun e w'=>e=.returned (.tuple #[.int .i64 (seq (s.data.toList.drop i)).1,.int .i64 (seq (s.data.toList.drop i)).2])∧w'=w:=by
 have hlen:(s.data.toList.drop i).length=s.size-i:=by rw [List.length_drop,← size_data]
 have X0:=fun w=>byte_run0 s i hi w
 have X1:=fun (h:i+1<s.size) w=>byte_run s i 1 h w
 have X2:=fun (h:i+2<s.size) w=>byte_run s i 2 h w
 have X3:=fun (h:i+3<s.size) w=>byte_run s i 3 h w
 unfold seq;rw [hlen];have l0:=at0_lt (s.data.toList.drop i) 0;have l1:=at0_lt (s.data.toList.drop i) 1;have l2:=at0_lt (s.data.toList.drop i) 2;have l3:=at0_lt (s.data.toList.drop i) 3;generalize at0 (s.data.toList.drop i) 0=b0 at *;generalize at0 (s.data.toList.drop i) 1=b1 at *;generalize at0 (s.data.toList.drop i) 2=b2 at *;generalize at0 (s.data.toList.drop i) 3=b3 at *;unfold seqN;by_cases a:b0<0x80
 ·rw [if_pos a];exact sq1 s hs i hi w b0 X0 (by omega) (by omega)
 rw [if_neg a];by_cases b:b0 / 32=6
 ·rw [if_pos b];have q1:=beqI_true (a:=(b0:Int) / 32) (b:=6) (by omega);by_cases c1:s.size≤i+1
  ·rw [if_neg (by omega)];exact sq2s1 s hs i hi w b0 X0 (by omega) (by omega) q1 c1
  by_cases c2:b1 / 64=2
  ·have r1:=bneI_false (a:=(b1:Int) / 64) (b:=2) (by omega);by_cases c3:b0 % 32*64+b1 % 64≥0x80
   ·rw [if_pos (by omega)];have ec:((b0 % 32*64+b1 % 64:Nat):Int)=((b0:Int) % 32)*64+(b1:Int) % 64:=by omega
    show Calls _ _ _ _ fun e w'=>e=.returned (.tuple #[.int .i64 ((b0 % 32*64+b1 % 64:Nat):Int),.int .i64 2])∧w'=w
    rw [ec];exact sq2o s hs i hi w b0 X0 (by omega) (by omega) q1 (by omega) b1 (X1 (by omega)) (by omega) (by omega) r1 (by omega)
   ·rw [if_neg (by omega)];exact sq2l s hs i hi w b0 X0 (by omega) (by omega) q1 (by omega) b1 (X1 (by omega)) (by omega) (by omega) r1 (by omega)
  ·rw [if_neg (by omega)];exact sq2b1 s hs i hi w b0 X0 (by omega) (by omega) q1 (by omega) b1 (X1 (by omega)) (by omega) (by omega) (bneI_true (by omega))
 rw [if_neg b];have q1:=beqI_false (a:=(b0:Int) / 32) (b:=6) (by omega);by_cases d:b0 / 16=14
 ·rw [if_pos d];have q2:=beqI_true (a:=(b0:Int) / 16) (b:=14) (by omega);by_cases c1:s.size≤i+1
  ·rw [if_neg (by omega)];exact sq3s1 s hs i hi w b0 X0 (by omega) (by omega) q1 q2 c1
  by_cases c2:b1 / 64=2
  ·have r1:=bneI_false (a:=(b1:Int) / 64) (b:=2) (by omega);by_cases c3:s.size≤i+2
   ·rw [if_neg (by omega)];exact sq3s2 s hs i hi w b0 X0 (by omega) (by omega) q1 q2 (by omega) b1 (X1 (by omega)) (by omega) (by omega) r1 c3
   by_cases c4:b2 / 64=2
   ·have r2:=bneI_false (a:=(b2:Int) / 64) (b:=2) (by omega);have ec:((b0 % 16*4096+b1 % 64*64+b2 % 64:Nat):Int)=(((b0:Int) % 16)*64+(b1:Int) % 64)*64+(b2:Int) % 64:=by omega
    by_cases c5:b0 % 16*4096+b1 % 64*64+b2 % 64≥0x800
    ·by_cases c6:55296≤b0 % 16*4096+b1 % 64*64+b2 % 64∧b0 % 16*4096+b1 % 64*64+b2 % 64≤57343
     ·rw [if_neg (fun h=>h.2.2.2.2.2 c6)];exact sq3m s hs i hi w b0 X0 (by omega) (by omega) q1 q2 (by omega) b1 (X1 (by omega)) (by omega) (by omega) r1 (by omega) b2 (X2 (by omega)) (by omega) (by omega) r2 (by omega) (by omega) (by omega)
     ·rw [if_pos ⟨by omega,c2,by omega,c4,c5,c6⟩];show Calls _ _ _ _ fun e w'=>e=.returned (.tuple #[.int .i64 ((b0 % 16*4096+b1 % 64*64+b2 % 64:Nat):Int),.int .i64 3])∧w'=w
      rw [ec];by_cases c7:b0 % 16*4096+b1 % 64*64+b2 % 64<55296
      ·exact sq3o s hs i hi w b0 X0 (by omega) (by omega) q1 q2 (by omega) b1 (X1 (by omega)) (by omega) (by omega) r1 (by omega) b2 (X2 (by omega)) (by omega) (by omega) r2 (by omega) (by omega)
      ·exact sq3p s hs i hi w b0 X0 (by omega) (by omega) q1 q2 (by omega) b1 (X1 (by omega)) (by omega) (by omega) r1 (by omega) b2 (X2 (by omega)) (by omega) (by omega) r2 (by omega) (by omega)
    ·rw [if_neg (fun h=>c5 h.2.2.2.2.1)];exact sq3l s hs i hi w b0 X0 (by omega) (by omega) q1 q2 (by omega) b1 (X1 (by omega)) (by omega) (by omega) r1 (by omega) b2 (X2 (by omega)) (by omega) (by omega) r2 (by omega)
   ·rw [if_neg (fun h=>c4 h.2.2.2.1)];exact sq3b2 s hs i hi w b0 X0 (by omega) (by omega) q1 q2 (by omega) b1 (X1 (by omega)) (by omega) (by omega) r1 (by omega) b2 (X2 (by omega)) (by omega) (by omega) (bneI_true (by omega))
  ·rw [if_neg (fun h=>c2 h.2.1)];exact sq3b1 s hs i hi w b0 X0 (by omega) (by omega) q1 q2 (by omega) b1 (X1 (by omega)) (by omega) (by omega) (bneI_true (by omega))
 rw [if_neg d];have q2:=beqI_false (a:=(b0:Int) / 16) (b:=14) (by omega);by_cases f:b0 / 8=30
 ·rw [if_pos f];have q3:=beqI_true (a:=(b0:Int) / 8) (b:=30) (by omega);by_cases c1:s.size≤i+1
  ·rw [if_neg (by omega)];exact sq4s1 s hs i hi w b0 X0 (by omega) (by omega) q1 q2 q3 c1
  by_cases c2:b1 / 64=2
  ·have r1:=bneI_false (a:=(b1:Int) / 64) (b:=2) (by omega);by_cases c3:s.size≤i+2
   ·rw [if_neg (by omega)];exact sq4s2 s hs i hi w b0 X0 (by omega) (by omega) q1 q2 q3 (by omega) b1 (X1 (by omega)) (by omega) (by omega) r1 c3
   by_cases c4:b2 / 64=2
   ·have r2:=bneI_false (a:=(b2:Int) / 64) (b:=2) (by omega);by_cases c5:s.size≤i+3
    ·rw [if_neg (by omega)];exact sq4s3 s hs i hi w b0 X0 (by omega) (by omega) q1 q2 q3 (by omega) b1 (X1 (by omega)) (by omega) (by omega) r1 (by omega) b2 (X2 (by omega)) (by omega) (by omega) r2 c5
    by_cases c6:b3 / 64=2
    ·have r3:=bneI_false (a:=(b3:Int) / 64) (b:=2) (by omega);have ec:((b0 % 8*262144+b1 % 64*4096+b2 % 64*64+b3 % 64:Nat):Int)=((((b0:Int) % 8)*64+(b1:Int) % 64)*64+(b2:Int) % 64)*64+(b3:Int) % 64:=by omega
     by_cases c7:b0 % 8*262144+b1 % 64*4096+b2 % 64*64+b3 % 64≥0x10000
     ·by_cases c8:b0 % 8*262144+b1 % 64*4096+b2 % 64*64+b3 % 64≤1114111
      ·rw [if_pos ⟨by omega,c2,by omega,c4,by omega,c6,c7,c8⟩];show Calls _ _ _ _ fun e w'=>e=.returned (.tuple #[.int .i64 ((b0 % 8*262144+b1 % 64*4096+b2 % 64*64+b3 % 64:Nat):Int),.int .i64 4])∧w'=w
       rw [ec];exact sq4o s hs i hi w b0 X0 (by omega) (by omega) q1 q2 q3 (by omega) b1 (X1 (by omega)) (by omega) (by omega) r1 (by omega) b2 (X2 (by omega)) (by omega) (by omega) r2 (by omega) b3 (X3 (by omega)) (by omega) (by omega) r3 (by omega) (by omega)
      ·rw [if_neg (fun h=>c8 h.2.2.2.2.2.2.2)];exact sq4m s hs i hi w b0 X0 (by omega) (by omega) q1 q2 q3 (by omega) b1 (X1 (by omega)) (by omega) (by omega) r1 (by omega) b2 (X2 (by omega)) (by omega) (by omega) r2 (by omega) b3 (X3 (by omega)) (by omega) (by omega) r3 (by omega)
     ·rw [if_neg (fun h=>c7 h.2.2.2.2.2.2.1)];exact sq4l s hs i hi w b0 X0 (by omega) (by omega) q1 q2 q3 (by omega) b1 (X1 (by omega)) (by omega) (by omega) r1 (by omega) b2 (X2 (by omega)) (by omega) (by omega) r2 (by omega) b3 (X3 (by omega)) (by omega) (by omega) r3 (by omega)
    ·rw [if_neg (fun h=>c6 h.2.2.2.2.2.1)];exact sq4b3 s hs i hi w b0 X0 (by omega) (by omega) q1 q2 q3 (by omega) b1 (X1 (by omega)) (by omega) (by omega) r1 (by omega) b2 (X2 (by omega)) (by omega) (by omega) r2 (by omega) b3 (X3 (by omega)) (by omega) (by omega) (bneI_true (by omega))
   ·rw [if_neg (fun h=>c4 h.2.2.2.1)];exact sq4b2 s hs i hi w b0 X0 (by omega) (by omega) q1 q2 q3 (by omega) b1 (X1 (by omega)) (by omega) (by omega) r1 (by omega) b2 (X2 (by omega)) (by omega) (by omega) (bneI_true (by omega))
  ·rw [if_neg (fun h=>c2 h.2.1)];exact sq4b1 s hs i hi w b0 X0 (by omega) (by omega) q1 q2 q3 (by omega) b1 (X1 (by omega)) (by omega) (by omega) (bneI_true (by omega))
 ·rw [if_neg f];exact sq0 s hs i hi w b0 X0 (by omega) (by omega) q1 q2 (beqI_false (by omega))
theorem refLet_any (r:Int) (h0:0≤r) (h1:r≤1114111) (w:World):Calls Tryz.prog 110 #[.int .i64 r] w fun e w'=>e=.returned (.bool (okRune r))∧w'=w:=by
 have hcase:(r≤8)∨(9≤r∧r≤9)∨(10≤r∧r≤10)∨(11≤r∧r≤31)∨(32≤r∧r≤126)∨(127≤r∧r≤159)∨(160≤r∧r≤64975)∨(64976≤r∧r≤65007)∨(65008≤r∧r≤65278)∨(65279≤r∧r≤65279)∨(65280≤r):=by omega
 rcases hcase with ha|⟨ha,hb⟩|⟨ha,hb⟩|⟨ha,hb⟩|⟨ha,hb⟩|⟨ha,hb⟩|⟨ha,hb⟩|⟨ha,hb⟩|⟨ha,hb⟩|⟨ha,hb⟩|ha
 ·have t1:(r==9)=false:=nB (by omega);have t2:(r==10)=false:=nB (by omega);have t3:(r==65279)=false:=nB (by omega);go_enter Tryz.func110,Tryz.ntmps110;go_wp2_with fail;go_ret;exact ⟨congrArg (fun b=>Ending.returned (.bool b)) (okRune_no (by omega)),rfl⟩
 ·have t1:(r==9)=true:=beq_iff_eq.2 (by omega);have t2:(r==10)=false:=nB (by omega);have t3:(r==65279)=false:=nB (by omega);go_enter Tryz.func110,Tryz.ntmps110;go_wp2_with fail;go_ret;exact ⟨congrArg (fun b=>Ending.returned (.bool b)) (by unfold okRune;rw [eq_comm,decide_eq_true_iff];omega),rfl⟩
 ·have t1:(r==9)=false:=nB (by omega);have t2:(r==10)=true:=beq_iff_eq.2 (by omega);have t3:(r==65279)=false:=nB (by omega);go_enter Tryz.func110,Tryz.ntmps110;go_wp2_with fail;go_ret;exact ⟨congrArg (fun b=>Ending.returned (.bool b)) (by unfold okRune;rw [eq_comm,decide_eq_true_iff];omega),rfl⟩
 ·have t1:(r==9)=false:=nB (by omega);have t2:(r==10)=false:=nB (by omega);have t3:(r==65279)=false:=nB (by omega);go_enter Tryz.func110,Tryz.ntmps110;go_wp2_with fail;go_ret;exact ⟨congrArg (fun b=>Ending.returned (.bool b)) (okRune_no (by omega)),rfl⟩
 ·have t1:(r==9)=false:=nB (by omega);have t2:(r==10)=false:=nB (by omega);have t3:(r==65279)=false:=nB (by omega);go_enter Tryz.func110,Tryz.ntmps110;go_wp2_with fail;go_ret;exact ⟨congrArg (fun b=>Ending.returned (.bool b)) (okRune_yes (by omega)),rfl⟩
 ·have t1:(r==9)=false:=nB (by omega);have t2:(r==10)=false:=nB (by omega);have t3:(r==65279)=false:=nB (by omega);go_enter Tryz.func110,Tryz.ntmps110;go_wp2_with fail;go_ret;exact ⟨congrArg (fun b=>Ending.returned (.bool b)) (okRune_no (by omega)),rfl⟩
 ·have t1:(r==9)=false:=nB (by omega);have t2:(r==10)=false:=nB (by omega);have t3:(r==65279)=false:=nB (by omega);go_enter Tryz.func110,Tryz.ntmps110;go_wp2_with fail;go_ret;exact ⟨congrArg (fun b=>Ending.returned (.bool b)) (okRune_yes (by omega)),rfl⟩
 ·have t1:(r==9)=false:=nB (by omega);have t2:(r==10)=false:=nB (by omega);have t3:(r==65279)=false:=nB (by omega);go_enter Tryz.func110,Tryz.ntmps110;go_wp2_with fail;go_ret;exact ⟨congrArg (fun b=>Ending.returned (.bool b)) (okRune_no (by omega)),rfl⟩
 ·have t1:(r==9)=false:=nB (by omega);have t2:(r==10)=false:=nB (by omega);have t3:(r==65279)=false:=nB (by omega);go_enter Tryz.func110,Tryz.ntmps110;go_wp2_with fail;go_ret;exact ⟨congrArg (fun b=>Ending.returned (.bool b)) (okRune_yes (by omega)),rfl⟩
 ·have t1:(r==9)=false:=nB (by omega);have t2:(r==10)=false:=nB (by omega);have t3:(r==65279)=true:=beq_iff_eq.2 (by omega);go_enter Tryz.func110,Tryz.ntmps110;go_wp2_with fail;go_ret;exact ⟨congrArg (fun b=>Ending.returned (.bool b)) (okRune_no (by omega)),rfl⟩
 ·have t1:(r==9)=false:=nB (by omega);have t2:(r==10)=false:=nB (by omega);have t3:(r==65279)=false:=nB (by omega);go_enter Tryz.func110,Tryz.ntmps110;go_wp2_with fail;go_ret;exact ⟨congrArg (fun b=>Ending.returned (.bool b)) (okRune_yes (by omega)),rfl⟩
theorem infoInt:(Tryz.prog.info? 3).map (fun i=>(i.zero,i.size,i.bytes))=some (some (.int .i64 0),1,8):=by kernel_rfl
structure Split (s:ByteArray) (rs:List Int) (rest:List UInt8):Prop where
 bytes:s.data.toList=encs rs++rest
 ok:∀ r∈rs,okR r
 stop:rest=[]∨bad rest
theorem split_any (s:ByteArray):∃ rs rest,Split s rs rest:=by
 obtain ⟨rs,rest,e,ha,hr⟩:=split_text _ s.data.toList (lR _);exact ⟨rs,rest,e,ha,hr⟩
theorem Split.check_eq {s:ByteArray} {rs:List Int} {rest:List UInt8} (h:Split s rs rest):check s=if rest=[] then ((rs.length:Int),0,0) else (0,(posOf rs rs.length:Int),faultOf rest):=by
 by_cases h0:rest=[]
 ·rw [if_pos h0];exact check_text s rs (by rw [h.bytes,h0,List.append_nil]) h.ok
 ·rw [if_neg h0,posOf_all];exact check_fault s rs rest h.bytes h.ok (h.stop.resolve_left h0)
theorem Split.size {s:ByteArray} {rs:List Int} {rest:List UInt8} (h:Split s rs rest):s.size=posOf rs rs.length+rest.length:=by
 rw [size_data,h.bytes,List.length_append,posOf_all]
theorem Split.drop {s:ByteArray} {rs:List Int} {rest:List UInt8} (h:Split s rs rest) (j:Nat):s.data.toList.drop (posOf rs j)=encs (rs.drop j)++rest:=by
 rw [h.bytes,List.drop_append_of_le_length (posOf_le rs j),posOf_drop]
theorem Split.seqAt {s:ByteArray} {rs:List Int} {rest:List UInt8} (h:Split s rs rest) (j:Nat) (hj:j<rs.length):seq (s.data.toList.drop (posOf rs j))=(rs[j].toNat,(encB rs[j]).length):=by
 have hv:=(h.ok _ (List.getElem_mem hj)).1;rw [h.drop,List.drop_eq_getElem_cons hj,encs_cons,List.append_assoc];have hb:=brkL_enc rs[j] hv (encs (rs.drop (j+1))++rest);have hd:=dec_enc rs[j] hv (encs (rs.drop (j+1))++rest);have hp:=encB_pos rs[j];obtain ⟨b0,t,hbt⟩:=List.exists_cons_of_length_pos (l:=encB rs[j]++(encs (rs.drop (j+1))++rest)) (by rw [List.length_append];omega);rw [hbt] at hb hd ⊢;rw [seq_dec,hb,if_neg (by simp),hd]
theorem Split.seqEnd {s:ByteArray} {rs:List Int} {rest:List UInt8} (h:Split s rs rest):s.data.toList.drop (posOf rs rs.length)=rest:=by
 rw [h.drop,List.drop_length];rfl
def intsV (rs:List Int):List Value:=rs.map fun r=>.int .i64 r
theorem intsV_snoc (rs:List Int) (j:Nat) (hj:j<rs.length):intsV (rs.take j)++[Value.int .i64 rs[j]]=intsV (rs.take (j+1)):=by
 rw [List.take_succ_eq_append_getElem hj];simp only [intsV,List.map_append,List.map_cons,List.map_nil]
theorem cell_newI (w:World) (x:Value) (t:TypeId):∀ j u,[x][j]?=some u→(w.alloc (.cells #[x] t)).cell? ((⟨w.heap.size,0,none⟩:Addr).add j)=some u:=by
 intro j u hj
 match j,hj with
 | 0,hj=>simp at hj;subst hj;simp [Addr.add]
theorem own_ge {w:World} {B:Nat} {e:TypeId} {size n:Nat} {v:Value} {xs:List Value} (h:w.ownsRow B e size v n xs) {g:Nat} (hg:v.ownBlock=some g):B≤g:=by
 rcases h.2 with ⟨rfl,_⟩|⟨g',cap,cur,rfl,hB,_⟩
 ·simp [Value.ownBlock] at hg
 ·simp [Value.ownBlock] at hg;omega
theorem dec_width (l:List UInt8):1≤(dec l).2:=by
 unfold dec decN
 repeat' split
 all_goals simp
theorem runes_any {s:ByteArray} {rs:List Int} {rest:List UInt8} (h:Split s rs rest) (hs:s.size≤2097152) (w:World) :
  Calls Tryz.prog 104 #[.string s] w fun e w'=>∃ (a:Option Addr) (n cap:Nat) (p c:Int),e=.returned (.tuple #[.slice a n cap,.int .i64 p,.int .i64 c])∧Below w.heap.size w w' ∧
   ((rest=[]∧p=0∧c=0∧n=rs.length∧w'.ownsRow w.heap.size 3 1 (.slice a n cap) n (intsV rs))∨(¬ rest=[]∧n=0∧p=posOf rs rs.length∧c=faultOf rest)):=by
 obtain ⟨i0,hi,hz0,hz1,hz2⟩:=info_parts infoInt;have HSZ:Hid (s.size=posOf rs rs.length+rest.length):=h.size;have hrl:rs.length≤s.size:=by have:=posOf_ge rs rs.length (lR _);rw [HSZ.out];omega
 go_enter Tryz.func104,Tryz.ntmps104;go_wp2_with fail;go_loopw [5,6] (fun l i w'=>∃ (j:Nat) (a:Option Addr) (cap:Nat),j≤rs.length∧l=.slice a j cap∧i=.int .i64 (posOf rs j)∧w'.ownsRow w.heap.size 3 1 (.slice a j cap) j (intsV (rs.take j))∧Below w.heap.size w w') (fun _ i _=>s.size-(RowKit.intOf i).toNat)
 case atStart=>exact ⟨0,none,0,Nat.zero_le _,rfl,by rw [posOf_zero];rfl,World.ownsRow_nil _ _ _ _,bE _ _⟩
 case round =>
  obtain ⟨j,a,cap,hjl,rfl,rfl,hown,hnx⟩:=hrel;have hsz:=hnx.size;have hple:posOf rs j≤s.size:=by have:=posOf_mono rs hjl;rw [HSZ.out];omega
  by_cases hj:j<rs.length
  ·have hplt:posOf rs j<s.size:=by have:=posOf_lt rs hj (lR _);rw [HSZ.out];omega
   have hok:=h.ok _ (List.getElem_mem hj);have hv:=valid_le hok.1;have HS:Hid (seq (s.data.toList.drop (posOf rs j))=(rs[j].toNat,(encB rs[j]).length)):=h.seqAt j hj;have HPS:Hid ((posOf rs (j+1):Int)=(posOf rs j:Int)+((encB rs[j]).length:Int)):=by have:=posOf_succ rs j hj;unfold Hid;omega
   have hep:=encB_pos rs[j];have hle2:posOf rs j+(encB rs[j]).length≤s.size:=by
    have h1:=posOf_succ rs j hj;have h2:=posOf_mono rs (show j+1≤rs.length by omega);rw [HSZ.out];omega
   have HOK:Hid (okRune rs[j]=true):=hok.2;have HIV:Hid (intsV (rs.take j)++[Value.int .i64 rs[j]]=intsV (rs.take (j+1))):=intsV_snoc rs j hj;have ER:Hid (((rs[j].toNat:Nat):Int)=rs[j]):=by have:=hv.1;unfold Hid;omega
   clear hok;generalize (encB rs[j]).length=wd at *;have t0:((wd:Int)==0)=false:=nB (by omega);obtain ⟨hv0,hv1,_⟩:=hv;generalize rs[j]=r at *;go_wp2_with fail;refine (seq_any s (by omega) (posOf rs j) hplt _).mono ?_;rintro e w' ⟨rfl,rfl⟩;rw [HS.out];show _;simp only;rw [ER.out];go_wp2_with fail;refine (refLet_any r hv0 hv1 _).mono ?_;rintro e w' ⟨rfl,rfl⟩;rw [HOK.out];go_wp2_with (at_builtin;refine wpList_append_own _ rfl _ _ 124 rfl w.heap.size 3 i0 (.int .i64 0) 1 8 Tryz.underlying124 hi hz0 hz1 hz2 rfl (by decide) _ _ _ rfl (hown.alloc _) ⟨_,0,none⟩ 1 1 [.int .i64 r] rfl rfl ?c1 ?c2 ?c3 ?c4 ?c5 ?_)
   case c1=>exact cell_newI _ _ _
   case c2=>first|rfl|(intro u hu;simp at hu;subst hu;rfl)
   case c3=>unfold maxLen;omega
   case c4=>omega
   case c5=>first|omega|(simp;omega)
   intro v' w1 hown' hgrow _;rw [HIV.out] at hown';have hnx':Below w.heap.size w w1:=(hnx.alloc hsz _).grown hgrow (by simp;omega) (fun g hg=>own_ge hown hg);obtain ⟨a',cap',rfl⟩:∃ a' cap',v'=.slice a' (j+1) cap':=by
    rcases hown'.2 with ⟨_,h0⟩|⟨g,cap',cur,e,_⟩
    ·omega
    ·exact ⟨_,_,e⟩
   clear hown hgrow hnx HS;go_wp2_with fail;go_roundw
   case rel=>exact ⟨j+1,a',cap',by omega,rfl,by rw [HPS.out],hown',hnx'⟩
   case measure=>simp [RowKit.intOf];omega
  ·have hjl2:j=rs.length:=by omega
   subst hjl2;rw [List.take_length] at hown;by_cases hr:rest=[]
   ·have hend:s.size≤posOf rs rs.length:=by rw [HSZ.out,hr];simp
    have HR:Hid (rest=[]):=hr;clear hr;go_wp2_with fail;go_ret3;exact ⟨a,_,cap,_,_,rfl,hnx,.inl ⟨HR.out,rfl,rfl,rfl,hown⟩⟩
   ·have hbad:=h.stop.resolve_left hr;have hplt:posOf rs rs.length<s.size:=by have:=List.length_pos_iff.2 hr;rw [HSZ.out];omega
    obtain ⟨b0,t,hbt⟩:=List.exists_cons_of_length_pos (List.length_pos_iff.2 hr);have HD:Hid (s.data.toList.drop (posOf rs rs.length)=rest):=h.seqEnd;have HNR:Hid (¬ rest=[]):=hr;rcases bad_no hbad with hb|⟨hb,hb2⟩
    ·have HS:Hid (seq (s.data.toList.drop (posOf rs rs.length))=(0,0)):=by
      unfold Hid;rw [HD.out,hbt,seq_dec,← hbt,hb,if_pos rfl]
     have HF:Hid (faultOf rest=10):=by unfold Hid faultOf;rw [if_pos hb]
     clear hbad hb hr hbt;go_wp2_with fail;refine (seq_any s (by omega) (posOf rs rs.length) hplt _).mono ?_;rintro e w' ⟨rfl,rfl⟩;rw [HS.out];go_wp2_with fail;go_ret3;exact ⟨none,0,0,_,_,rfl,hnx,.inr ⟨HNR.out,rfl,rfl,HF.out.symm⟩⟩
    ·have hv:=(enc_dec rest hr hb).1;have hdw:=dec_width rest;have HS0:seq (s.data.toList.drop (posOf rs rs.length))=dec rest:=by
      rw [HD.out,hbt,seq_dec,← hbt,hb,if_neg (by simp)]
     have HF:Hid (faultOf rest=11):=by unfold Hid faultOf;rw [hb];rfl
     obtain ⟨r,wd,hdec⟩:∃ r wd,dec rest=(r,wd):=⟨_,_,rfl⟩;rw [hdec] at hv hdw HS0 hb2;have HS:Hid (seq (s.data.toList.drop (posOf rs rs.length))=(r,wd)):=HS0;have HB2:Hid (okRune (r:Int)=false):=hb2;obtain ⟨hv0,hv1,_⟩:=valid_le hv;clear hbad hb hb2 hr hbt hv HS0 hdec;have hdw':1≤wd:=hdw;have t0:((wd:Int)==0)=false:=nB (by omega);clear hdw;go_wp2_with fail;refine (seq_any s (by omega) (posOf rs rs.length) hplt _).mono ?_;rintro e w' ⟨rfl,rfl⟩;rw [HS.out];show _;simp only;go_wp2_with fail;refine (refLet_any r hv0 hv1 _).mono ?_;rintro e w' ⟨rfl,rfl⟩;rw [HB2.out];go_wp2_with fail;go_ret3;exact ⟨none,0,0,_,_,rfl,hnx,.inr ⟨HNR.out,rfl,rfl,HF.out.symm⟩⟩
theorem refCheck_any (s:ByteArray) (hs:s.size≤2097152) (w:World) :
  Calls Tryz.prog 86 #[.string s] w fun e w'=>e=.returned (.tuple #[.int .i64 (check s).1,.int .i64 (check s).2.1,.int .i64 (check s).2.2])∧Below w.heap.size w w':=by
 obtain ⟨rs,rest,h⟩:=split_any s;have HC:Hid (check s=if rest=[] then ((rs.length:Int),0,0) else (0,(posOf rs rs.length:Int),faultOf rest)):=h.check_eq;go_enter Tryz.func86,Tryz.ntmps86;go_wp2_with fail;refine (runes_any h hs _).mono ?_;rintro e w1 ⟨a,n,cap,p,c,rfl,hb1,hpost⟩;have HP:Hid (check s=((n:Int),p,c)):=by
  unfold Hid;rw [HC.out];rcases hpost with ⟨h1,rfl,rfl,rfl,_⟩|⟨h1,rfl,rfl,rfl⟩
  ·rw [if_pos h1]
  ·rw [if_neg h1];rfl
 clear hpost HC;go_wp2_with fail;go_ret3;rw [HP.out];exact ⟨rfl,hb1⟩
end Go.Proofs.YtmeciikfnbbllaaGreatDoor
namespace Go.Proofs.YtmeciikfnbbllaaGreatDoor.Sp
open Go.RowKit Go.Lib
theorem refCheck_any {w:World} {a:Option Addr} {n cap:Nat} {l:List (Int×Int)} (h:Rng w a n cap l) :
  Calls Tryz.prog 103 #[.slice a n cap] w fun e w'=>e=.returned (.tuple #[.int .i64 (checkL l).1,.int .i64 (checkL l).2])∧Below w.heap.size w w':=by
 have hlen:=h.len;have hroom:=h.room;by_cases hmany:32768<n
 ·have e0:checkL l=(32768,21):=by unfold checkL;rw [if_pos (by omega)]
  rw [e0];clear e0 hlen;go_enter Tryz.func103,Tryz.ntmps103;go_wp2_with fail;go_ret2;exact ⟨rfl,bE _ _⟩
 ·obtain ⟨ri,rc,hck⟩:∃ i c,checkL l=(i,c):=⟨_,_,rfl⟩;have hck2:=hck;unfold checkL at hck2;rw [if_neg (by omega)] at hck2;have HC:Hid (chk 0 (-1) l=(ri,rc)):=hck2;clear hck2;rw [hck];clear hck;go_enter Tryz.func103,Tryz.ntmps103;go_wp2_with fail;go_loopw [4] (fun i w'=>∃ j:Nat,j≤n∧i=.int .i64 j∧Below w.heap.size w w'∧Hid (chk j (prevHi l j) (l.drop j)=(ri,rc))) (fun i _=>n-(RowKit.intOf i).toNat)
  case atStart=>exact ⟨0,Nat.zero_le _,rfl,bE _ _,HC⟩
  case round =>
   obtain ⟨j,hjn,rfl,hb,HR⟩:=hrel;by_cases hj:j<n
   ·obtain ⟨g,off,rfl,hg,hc,hd⟩:=h.cells j hj;have c0:=(hb.cell (p:=⟨g,off+j*2,none⟩) hg).trans hc;have c1:=(hb.cell (p:=⟨g,off+j*2+1,none⟩) hg).trans hd;have HR2:=HR.out;rw [drop_getD l j (by omega)] at HR2;obtain ⟨lo,hi,hlh⟩:∃ lo hi,l.getD j (0,0)=(lo,hi):=⟨_,_,rfl⟩;rw [hlh] at HR2 c0 c1;simp only at c0 c1;have HL:Hid (l.getD j (0,0)=(lo,hi)):=hlh;clear hlh hc hd HR;unfold chk at HR2;by_cases hp:lo<0∨1048576<hi∨hi≤lo
    ·rw [if_pos (by simp only;omega)] at HR2;simp only [Prod.mk.injEq] at HR2;obtain ⟨rfl,rfl⟩:=HR2;have hcs:lo<0∨(0≤lo∧1048576<hi)∨(0≤lo∧hi≤1048576∧hi≤lo):=by omega
     clear hp;rcases hcs with k1|⟨k1,k2⟩|⟨k1,k2,k3⟩
     ·have d1:decide (lo<0)=true:=decide_eq_true k1;clear k1;go_wp2_with fail;go_quiet (fail);go_wp2_with fail;go_ret2;exact ⟨rfl,below_drewN hb _⟩
     ·have d1:decide (lo<0)=false:=decide_eq_false (by omega);have d2:decide (1048576<hi)=true:=decide_eq_true k2;clear k1 k2;go_wp2_with fail;go_quiet (fail);go_wp2_with fail;go_ret2;exact ⟨rfl,below_drewN hb _⟩
     ·have d1:decide (lo<0)=false:=decide_eq_false (by omega);have d2:decide (1048576<hi)=false:=decide_eq_false (by omega);have d3:decide (hi≤lo)=true:=decide_eq_true k3;clear k1 k2 k3;go_wp2_with fail;go_quiet (fail);go_wp2_with fail;go_ret2;exact ⟨rfl,below_drewN hb _⟩
    ·rw [if_neg (by simp only;omega)] at HR2;simp only at HR2;have d1:decide (lo<0)=false:=decide_eq_false (by omega);have d2:decide (1048576<hi)=false:=decide_eq_false (by omega);have d3:decide (hi≤lo)=false:=decide_eq_false (by omega);have HP:Hid (0≤lo):=(by omega:0≤lo);clear hp;by_cases ho:lo≤prevHi l j
     ·rw [if_pos ho] at HR2;simp only [Prod.mk.injEq] at HR2;obtain ⟨rfl,rfl⟩:=HR2;have hj0:j≠0:=fun e=>by rw [prevHi,if_pos e] at ho;have:=HP.out;omega
      obtain ⟨i,rfl⟩:∃ i,j=i+1:=⟨j-1,by omega⟩;rw [prevHi,if_neg (by omega),Nat.add_sub_cancel] at ho;obtain ⟨g',off',hga,hg',_,hd'⟩:=h.cells i (by omega);cases hga;have c4:=(hb.cell (p:=⟨g,off+i*2+1,none⟩) hg).trans hd';generalize (l.getD i (0,0)).2=ph at ho c4;have d4:decide (lo≤ph)=true:=decide_eq_true ho;clear hd' ho;go_wp2_with fail;go_quiet (fail);go_wp2_with fail;go_quiet (fail);go_wp2_with fail;go_ret2;exact ⟨rfl,below_drewN (below_drewN hb _) _⟩
     ·rw [if_neg ho] at HR2;have HN:Hid (chk (j+1) (prevHi l (j+1)) (l.drop (j+1))=(ri,rc)):=by
       show _=_;rw [prevHi,if_neg (by omega),Nat.add_sub_cancel,HL.out];exact HR2
      clear HR2;by_cases hj0:j=0
      ·subst hj0;simp only [Nat.zero_mul,Nat.add_zero] at c0 c1;clear ho;go_wp2_with fail;go_quiet (fail);go_wp2_with fail;go_quiet (fail);go_wp2_with fail;go_roundw
       case rel=>exact ⟨1,by omega,rfl,below_drewN hb _,HN⟩
       case measure=>simp [RowKit.intOf];omega
      ·obtain ⟨i,rfl⟩:∃ i,j=i+1:=⟨j-1,by omega⟩;rw [prevHi,if_neg (by omega),Nat.add_sub_cancel] at ho;obtain ⟨g',off',hga,hg',_,hd'⟩:=h.cells i (by omega);cases hga;have c4:=(hb.cell (p:=⟨g,off+i*2+1,none⟩) hg).trans hd';generalize (l.getD i (0,0)).2=ph at ho c4;have d4:decide (lo≤ph)=false:=decide_eq_false ho;clear hd' hj0 ho;go_wp2_with fail;go_quiet (fail);go_wp2_with fail;go_quiet (fail);go_wp2_with fail;go_roundw
       case rel=>exact ⟨i+1+1,by omega,by go_num,below_drewN hb _,HN⟩
       case measure=>simp [RowKit.intOf];omega
   ·have e1:l.drop j=[]:=List.drop_eq_nil_of_le (by omega);have HR2:=HR.out;rw [e1] at HR2;simp only [chk,Prod.mk.injEq] at HR2;obtain ⟨rfl,rfl⟩:=HR2;go_wp2_with fail;go_ret2;exact ⟨rfl,hb⟩
end Go.Proofs.YtmeciikfnbbllaaGreatDoor.Sp
namespace Go.Proofs.YtmeciikfnbbllaaGreatDoor
open Go.RowKit Go.Lib Sp
theorem gExtra_any {o:OpV} {w:World} {a:Option Addr} {m cap:Nat} (hlen:o.l.length=m) :
  Calls Tryz.prog 101 #[opVal o (.slice a m cap)] w fun e w'=>e=.returned (.bool (extra o))∧Below w.heap.size w w':=by
 obtain ⟨c,n,k,p,s,l,tc,tn,on⟩:=o;simp only at hlen;simp only [opVal];have hP:(p≠0∧extP ⟨c,n,k,p,s,l,tc,tn,on⟩=true)∨((p=0∧s≠⟨#[]⟩)∧extP ⟨c,n,k,p,s,l,tc,tn,on⟩=true)∨((p=0∧s=⟨#[]⟩)∧extP ⟨c,n,k,p,s,l,tc,tn,on⟩=false):=by
  simp only [extP,← size_zero_iff];by_cases h0:p=0<;>by_cases h3:s=⟨#[]⟩<;>simp [h0,h3]
 have hT:(tc≠0∧extT ⟨c,n,k,p,s,l,tc,tn,on⟩=true)∨((tc=0∧tn≠0)∧extT ⟨c,n,k,p,s,l,tc,tn,on⟩=true)∨((tc=0∧tn=0)∧extT ⟨c,n,k,p,s,l,tc,tn,on⟩=on):=by
  simp only [extT];by_cases h0:tc=0<;>by_cases h3:tn=0<;>simp [h0,h3]
 have hL:(0<m∧ext0 ⟨c,n,k,p,s,l,tc,tn,on⟩=true)∨(m=0∧ext0 ⟨c,n,k,p,s,l,tc,tn,on⟩=false):=by
  simp only [ext0];cases l with
  | nil=>right;exact ⟨by simpa using hlen.symm,rfl⟩
  | cons x t=>left;exact ⟨by simp at hlen;omega,rfl⟩
 have hK:k=1∨k=4∨(k≠1∧k≠4):=by omega
 rcases hP with ⟨hp,ep⟩|⟨hp,ep⟩|⟨hp,ep⟩
 ·rcases hT with ⟨ht,et⟩|⟨ht,et⟩|⟨ht,et⟩
  ·rcases hL with ⟨hl,el⟩|⟨hl,el⟩
   ·rcases hK with hk|hk|hk
    ·rw [show extra ⟨c,n,k,p,s,l,tc,tn,on⟩=true from by simp only [extra,ep,et,el];simp [hk]];exact gEx_0000 hp ht hl hk
    ·rw [show extra ⟨c,n,k,p,s,l,tc,tn,on⟩=true from by simp only [extra,ep,et,el];simp [hk]];exact gEx_0001 hp ht hl hk
    ·rw [show extra ⟨c,n,k,p,s,l,tc,tn,on⟩=true from by simp only [extra,ep,et,el];simp [hk]];exact gEx_0002 hp ht hl hk
   ·rcases hK with hk|hk|hk
    ·rw [show extra ⟨c,n,k,p,s,l,tc,tn,on⟩=true from by simp only [extra,ep,et,el];simp [hk]];exact gEx_0010 hp ht hl hk
    ·rw [show extra ⟨c,n,k,p,s,l,tc,tn,on⟩=true from by simp only [extra,ep,et,el];simp [hk]];exact gEx_0011 hp ht hl hk
    ·rw [show extra ⟨c,n,k,p,s,l,tc,tn,on⟩=true from by simp only [extra,ep,et,el];simp [hk]];exact gEx_0012 hp ht hl hk
  ·rcases hL with ⟨hl,el⟩|⟨hl,el⟩
   ·rcases hK with hk|hk|hk
    ·rw [show extra ⟨c,n,k,p,s,l,tc,tn,on⟩=true from by simp only [extra,ep,et,el];simp [hk]];exact gEx_0100 hp ht hl hk
    ·rw [show extra ⟨c,n,k,p,s,l,tc,tn,on⟩=true from by simp only [extra,ep,et,el];simp [hk]];exact gEx_0101 hp ht hl hk
    ·rw [show extra ⟨c,n,k,p,s,l,tc,tn,on⟩=true from by simp only [extra,ep,et,el];simp [hk]];exact gEx_0102 hp ht hl hk
   ·rcases hK with hk|hk|hk
    ·rw [show extra ⟨c,n,k,p,s,l,tc,tn,on⟩=true from by simp only [extra,ep,et,el];simp [hk]];exact gEx_0110 hp ht hl hk
    ·rw [show extra ⟨c,n,k,p,s,l,tc,tn,on⟩=true from by simp only [extra,ep,et,el];simp [hk]];exact gEx_0111 hp ht hl hk
    ·rw [show extra ⟨c,n,k,p,s,l,tc,tn,on⟩=true from by simp only [extra,ep,et,el];simp [hk]];exact gEx_0112 hp ht hl hk
  ·rcases hL with ⟨hl,el⟩|⟨hl,el⟩
   ·rcases hK with hk|hk|hk
    ·rw [show extra ⟨c,n,k,p,s,l,tc,tn,on⟩=true from by simp only [extra,ep,et,el];simp [hk]];exact gEx_0200 hp ht hl hk
    ·rw [show extra ⟨c,n,k,p,s,l,tc,tn,on⟩=true from by simp only [extra,ep,et,el];simp [hk]];exact gEx_0201 hp ht hl hk
    ·rw [show extra ⟨c,n,k,p,s,l,tc,tn,on⟩=true from by simp only [extra,ep,et,el];simp [hk]];exact gEx_0202 hp ht hl hk
   ·rcases hK with hk|hk|hk
    ·rw [show extra ⟨c,n,k,p,s,l,tc,tn,on⟩=on from by simp only [extra,ep,et,el];simp [hk]];exact gEx_0210 hp ht hl hk
    ·rw [show extra ⟨c,n,k,p,s,l,tc,tn,on⟩=true from by simp only [extra,ep,et,el];simp [hk]];exact gEx_0211 hp ht hl hk
    ·rw [show extra ⟨c,n,k,p,s,l,tc,tn,on⟩=true from by simp only [extra,ep,et,el];simp [hk]];exact gEx_0212 hp ht hl hk
 ·rcases hT with ⟨ht,et⟩|⟨ht,et⟩|⟨ht,et⟩
  ·rcases hL with ⟨hl,el⟩|⟨hl,el⟩
   ·rcases hK with hk|hk|hk
    ·rw [show extra ⟨c,n,k,p,s,l,tc,tn,on⟩=true from by simp only [extra,ep,et,el];simp [hk]];exact gEx_1000 hp ht hl hk
    ·rw [show extra ⟨c,n,k,p,s,l,tc,tn,on⟩=true from by simp only [extra,ep,et,el];simp [hk]];exact gEx_1001 hp ht hl hk
    ·rw [show extra ⟨c,n,k,p,s,l,tc,tn,on⟩=true from by simp only [extra,ep,et,el];simp [hk]];exact gEx_1002 hp ht hl hk
   ·rcases hK with hk|hk|hk
    ·rw [show extra ⟨c,n,k,p,s,l,tc,tn,on⟩=true from by simp only [extra,ep,et,el];simp [hk]];exact gEx_1010 hp ht hl hk
    ·rw [show extra ⟨c,n,k,p,s,l,tc,tn,on⟩=true from by simp only [extra,ep,et,el];simp [hk]];exact gEx_1011 hp ht hl hk
    ·rw [show extra ⟨c,n,k,p,s,l,tc,tn,on⟩=true from by simp only [extra,ep,et,el];simp [hk]];exact gEx_1012 hp ht hl hk
  ·rcases hL with ⟨hl,el⟩|⟨hl,el⟩
   ·rcases hK with hk|hk|hk
    ·rw [show extra ⟨c,n,k,p,s,l,tc,tn,on⟩=true from by simp only [extra,ep,et,el];simp [hk]];exact gEx_1100 hp ht hl hk
    ·rw [show extra ⟨c,n,k,p,s,l,tc,tn,on⟩=true from by simp only [extra,ep,et,el];simp [hk]];exact gEx_1101 hp ht hl hk
    ·rw [show extra ⟨c,n,k,p,s,l,tc,tn,on⟩=true from by simp only [extra,ep,et,el];simp [hk]];exact gEx_1102 hp ht hl hk
   ·rcases hK with hk|hk|hk
    ·rw [show extra ⟨c,n,k,p,s,l,tc,tn,on⟩=true from by simp only [extra,ep,et,el];simp [hk]];exact gEx_1110 hp ht hl hk
    ·rw [show extra ⟨c,n,k,p,s,l,tc,tn,on⟩=true from by simp only [extra,ep,et,el];simp [hk]];exact gEx_1111 hp ht hl hk
    ·rw [show extra ⟨c,n,k,p,s,l,tc,tn,on⟩=true from by simp only [extra,ep,et,el];simp [hk]];exact gEx_1112 hp ht hl hk
  ·rcases hL with ⟨hl,el⟩|⟨hl,el⟩
   ·rcases hK with hk|hk|hk
    ·rw [show extra ⟨c,n,k,p,s,l,tc,tn,on⟩=true from by simp only [extra,ep,et,el];simp [hk]];exact gEx_1200 hp ht hl hk
    ·rw [show extra ⟨c,n,k,p,s,l,tc,tn,on⟩=true from by simp only [extra,ep,et,el];simp [hk]];exact gEx_1201 hp ht hl hk
    ·rw [show extra ⟨c,n,k,p,s,l,tc,tn,on⟩=true from by simp only [extra,ep,et,el];simp [hk]];exact gEx_1202 hp ht hl hk
   ·rcases hK with hk|hk|hk
    ·rw [show extra ⟨c,n,k,p,s,l,tc,tn,on⟩=on from by simp only [extra,ep,et,el];simp [hk]];exact gEx_1210 hp ht hl hk
    ·rw [show extra ⟨c,n,k,p,s,l,tc,tn,on⟩=true from by simp only [extra,ep,et,el];simp [hk]];exact gEx_1211 hp ht hl hk
    ·rw [show extra ⟨c,n,k,p,s,l,tc,tn,on⟩=true from by simp only [extra,ep,et,el];simp [hk]];exact gEx_1212 hp ht hl hk
 ·rcases hT with ⟨ht,et⟩|⟨ht,et⟩|⟨ht,et⟩
  ·rcases hL with ⟨hl,el⟩|⟨hl,el⟩
   ·rcases hK with hk|hk|hk
    ·rw [show extra ⟨c,n,k,p,s,l,tc,tn,on⟩=true from by simp only [extra,ep,et,el];simp [hk]];exact gEx_2000 hp ht hl hk
    ·rw [show extra ⟨c,n,k,p,s,l,tc,tn,on⟩=true from by simp only [extra,ep,et,el];simp [hk]];exact gEx_2001 hp ht hl hk
    ·rw [show extra ⟨c,n,k,p,s,l,tc,tn,on⟩=true from by simp only [extra,ep,et,el];simp [hk]];exact gEx_2002 hp ht hl hk
   ·rcases hK with hk|hk|hk
    ·rw [show extra ⟨c,n,k,p,s,l,tc,tn,on⟩=true from by simp only [extra,ep,et,el];simp [hk]];exact gEx_2010 hp ht hl hk
    ·rw [show extra ⟨c,n,k,p,s,l,tc,tn,on⟩=false from by simp only [extra,ep,et,el];simp [hk]];exact gEx_2011 hp ht hl hk
    ·rw [show extra ⟨c,n,k,p,s,l,tc,tn,on⟩=true from by simp only [extra,ep,et,el];simp [hk]];exact gEx_2012 hp ht hl hk
  ·rcases hL with ⟨hl,el⟩|⟨hl,el⟩
   ·rcases hK with hk|hk|hk
    ·rw [show extra ⟨c,n,k,p,s,l,tc,tn,on⟩=true from by simp only [extra,ep,et,el];simp [hk]];exact gEx_2100 hp ht hl hk
    ·rw [show extra ⟨c,n,k,p,s,l,tc,tn,on⟩=true from by simp only [extra,ep,et,el];simp [hk]];exact gEx_2101 hp ht hl hk
    ·rw [show extra ⟨c,n,k,p,s,l,tc,tn,on⟩=true from by simp only [extra,ep,et,el];simp [hk]];exact gEx_2102 hp ht hl hk
   ·rcases hK with hk|hk|hk
    ·rw [show extra ⟨c,n,k,p,s,l,tc,tn,on⟩=true from by simp only [extra,ep,et,el];simp [hk]];exact gEx_2110 hp ht hl hk
    ·rw [show extra ⟨c,n,k,p,s,l,tc,tn,on⟩=false from by simp only [extra,ep,et,el];simp [hk]];exact gEx_2111 hp ht hl hk
    ·rw [show extra ⟨c,n,k,p,s,l,tc,tn,on⟩=true from by simp only [extra,ep,et,el];simp [hk]];exact gEx_2112 hp ht hl hk
  ·rcases hL with ⟨hl,el⟩|⟨hl,el⟩
   ·rcases hK with hk|hk|hk
    ·rw [show extra ⟨c,n,k,p,s,l,tc,tn,on⟩=true from by simp only [extra,ep,et,el];simp [hk]];exact gEx_2200 hp ht hl hk
    ·rw [show extra ⟨c,n,k,p,s,l,tc,tn,on⟩=true from by simp only [extra,ep,et,el];simp [hk]];exact gEx_2201 hp ht hl hk
    ·rw [show extra ⟨c,n,k,p,s,l,tc,tn,on⟩=on from by simp only [extra,ep,et,el];simp [hk]];exact gEx_2202 hp ht hl hk
   ·rcases hK with hk|hk|hk
    ·rw [show extra ⟨c,n,k,p,s,l,tc,tn,on⟩=on from by simp only [extra,ep,et,el];simp [hk]];exact gEx_2210 hp ht hl hk
    ·rw [show extra ⟨c,n,k,p,s,l,tc,tn,on⟩=false from by simp only [extra,ep,et,el];simp [hk]];exact gEx_2211 hp ht hl hk
    ·rw [show extra ⟨c,n,k,p,s,l,tc,tn,on⟩=on from by simp only [extra,ep,et,el];simp [hk]];exact gEx_2212 hp ht hl hk
theorem gInsert_any {o:OpV} {v:Value} {total:Int} (h0:0≤total) (h1:total≤1048576) (hs:o.s.size≤2097152) (w:World) :
  Calls Tryz.prog 102 #[opVal o v,.int .i64 total] w fun e w'=>e=.returned (.int .i64 (insP o total))∧Below w.heap.size w w':=by
 obtain ⟨c,n,k,p,s,l,tc,tn,on⟩:=o;obtain ⟨x,y,z,hc⟩:∃ x y z,check s=(x,y,z):=⟨_,_,_,rfl⟩;have hx0:0≤x:=by have:=check_nonneg s;rw [hc] at this;exact this
 have hw2:=(bE w.heap.size w).alloc (lR _) (Obj.cells #[.int .i64 c,.int .i64 n,.int .i64 k,.int .i64 p,.string s,v,.int .i64 tc,.int .i64 tn,.bool on] 33);have HC:=refCheck_any s hs (w.alloc (Obj.cells #[.int .i64 c,.int .i64 n,.int .i64 k,.int .i64 p,.string s,v,.int .i64 tc,.int .i64 tn,.bool on] 33));rw [hc] at HC;obtain ⟨r,hr⟩:∃ r,insP ⟨c,n,k,p,s,l,tc,tn,on⟩ total=r:=⟨_,rfl⟩;rw [hr];simp only [insP,hc] at hr;clear hc hs;simp only [opVal];have HC2:Hid (Calls Tryz.prog 86 #[.string s] (w.alloc (Obj.cells #[.int .i64 c,.int .i64 n,.int .i64 k,.int .i64 p,.string s,v,.int .i64 tc,.int .i64 tn,.bool on] 33)) fun e w'=>e=.returned (.tuple #[.int .i64 x,.int .i64 y,.int .i64 z])∧Below (w.alloc (Obj.cells #[.int .i64 c,.int .i64 n,.int .i64 k,.int .i64 p,.string s,v,.int .i64 tc,.int .i64 tn,.bool on] 33)).heap.size (w.alloc (Obj.cells #[.int .i64 c,.int .i64 n,.int .i64 k,.int .i64 p,.string s,v,.int .i64 tc,.int .i64 tn,.bool on] 33)) w'):=HC;clear HC;go_enter Tryz.func102,Tryz.ntmps102;go_wp2_with fail;refine HC2.out.mono ?_;rintro e w1 ⟨rfl,hb1⟩;have hB:=hw2.trans (hb1.mono hw2.size);have d3:w1.cell? ⟨w.heap.size,3,none⟩=some (.int .i64 p):=(hb1.cell (p:=⟨w.heap.size,3,none⟩) (by simp)).trans (cM ..);clear hw2 hb1 HC2;by_cases hz:z=0
 ·subst hz;rw [if_neg (by simp)] at hr;by_cases hx:x=0
  ·subst hx;rw [if_pos rfl] at hr;subst hr;go_wp2_with fail;go_ret;exact ⟨rfl,hB⟩
  ·rw [if_neg hx] at hr;have t1:(x==0)=false:=nB hx;clear hx;by_cases hl:256<x
   ·rw [if_pos hl] at hr;subst hr;go_wp2_with fail;go_ret;exact ⟨rfl,hB⟩
   ·rw [if_neg hl] at hr;by_cases hp:p<0∨total<p
    ·rw [if_pos hp] at hr;subst hr;by_cases hp0:p<0
     ·clear hp;go_wp2_with fail;go_ret;exact ⟨rfl,hB⟩
     ·have hp1:total<p:=by omega
      clear hp;go_wp2_with fail;go_ret;exact ⟨rfl,hB⟩
    ·rw [if_neg hp] at hr;have hp0:0≤p:=by omega
     have hp1:p≤total:=by omega
     clear hp;by_cases hg:1048576<total+x
     ·rw [if_pos hg] at hr;subst hr;go_wp2_with fail;go_ret;exact ⟨rfl,hB⟩
     ·rw [if_neg hg] at hr;subst hr;go_wp2_with fail;go_ret;exact ⟨rfl,hB⟩
 ·rw [if_pos hz] at hr;subst hr;have t1:(z != 0)=true:=bne_iff_ne.2 hz;clear hz;go_wp2_with fail;go_ret;exact ⟨rfl,hB⟩
theorem gWidth_any {o:OpV} {v:Value} (hs:o.s.size≤2097152) (w:World) :
  Calls Tryz.prog 64 #[opVal o v] w fun e w'=>e=.returned (.int .i64 (widthP o))∧Below w.heap.size w w':=by
 obtain ⟨c,n,k,p,s,l,tc,tn,on⟩:=o;obtain ⟨x,y,z,hc⟩:∃ x y z,check s=(x,y,z):=⟨_,_,_,rfl⟩;have hxz:z≠0→x=0:=by
  obtain ⟨rs,rest,h⟩:=split_any s;have h2:=h.check_eq;rw [hc] at h2;split at h2<;>simp only [Prod.mk.injEq] at h2
  ·intro hz;exact absurd h2.2.2 hz
  ·intro _;exact h2.1
 have hw2:=(bE w.heap.size w).alloc (lR _) (Obj.cells #[.int .i64 c,.int .i64 n,.int .i64 k,.int .i64 p,.string s,v,.int .i64 tc,.int .i64 tn,.bool on] 33);have HC:=refCheck_any s hs (w.alloc (Obj.cells #[.int .i64 c,.int .i64 n,.int .i64 k,.int .i64 p,.string s,v,.int .i64 tc,.int .i64 tn,.bool on] 33));rw [hc] at HC;obtain ⟨r,hr⟩:∃ r,widthP ⟨c,n,k,p,s,l,tc,tn,on⟩=r:=⟨_,rfl⟩;rw [hr];simp only [widthP,hc] at hr;clear hc hs;simp only [opVal];have HC2:Hid (Calls Tryz.prog 86 #[.string s] (w.alloc (Obj.cells #[.int .i64 c,.int .i64 n,.int .i64 k,.int .i64 p,.string s,v,.int .i64 tc,.int .i64 tn,.bool on] 33)) fun e w'=>e=.returned (.tuple #[.int .i64 x,.int .i64 y,.int .i64 z])∧Below (w.alloc (Obj.cells #[.int .i64 c,.int .i64 n,.int .i64 k,.int .i64 p,.string s,v,.int .i64 tc,.int .i64 tn,.bool on] 33)).heap.size (w.alloc (Obj.cells #[.int .i64 c,.int .i64 n,.int .i64 k,.int .i64 p,.string s,v,.int .i64 tc,.int .i64 tn,.bool on] 33)) w'):=HC;clear HC;by_cases hk:k=1
 ·subst hk;rw [if_pos rfl] at hr;subst hr;go_enter Tryz.func64,Tryz.ntmps64;go_wp2_with fail;refine HC2.out.mono ?_;rintro e w1 ⟨rfl,hb1⟩;have hB:=hw2.trans (hb1.mono hw2.size);clear hw2 hb1 HC2;by_cases hz:z=0
  ·subst hz;clear hxz;go_wp2_with fail;go_ret;exact ⟨rfl,hB⟩
  ·have hx:=hxz hz;subst hx;have t1:(z != 0)=true:=bne_iff_ne.2 hz;clear hz hxz;go_wp2_with fail;go_ret;exact ⟨rfl,hB⟩
 ·rw [if_neg hk] at hr;subst hr;have t1:(k != 1)=true:=bne_iff_ne.2 hk;clear hk HC2 hxz;go_enter Tryz.func64,Tryz.ntmps64;go_wp2_with fail;go_ret;exact ⟨rfl,hw2⟩
end Go.Proofs.YtmeciikfnbbllaaGreatDoor
