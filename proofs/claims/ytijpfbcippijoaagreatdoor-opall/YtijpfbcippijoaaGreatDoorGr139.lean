import Derived.Test.YtijpfbcippijoaaGreatDoorAl
import Derived.Test.YtijpfbcippijoaaGreatDoorGr138
set_option maxHeartbeats 1000000
set_option maxRecDepth 100000
namespace Go.Proofs.YtijpfbcippijoaaGreatDoor
def seqN (n b0 b1 b2 b3:Nat):Nat×Nat :=
 if b0<0x80 then (b0,1)
 else if b0 / 32=6 then
  if 1<n∧b1 / 64=2∧b0 % 32*64+b1 % 64≥0x80 then (b0 % 32*64+b1 % 64,2) else (0,0)
 else if b0 / 16=14 then
  if 1<n∧b1 / 64=2∧2<n∧b2 / 64=2∧b0 % 16*4096+b1 % 64*64+b2 % 64≥0x800∧¬ (55296≤b0 % 16*4096+b1 % 64*64+b2 % 64∧b0 % 16*4096+b1 % 64*64+b2 % 64≤57343) then (b0 % 16*4096+b1 % 64*64+b2 % 64,3) else (0,0)
 else if b0 / 8=30 then
  if 1<n∧b1 / 64=2∧2<n∧b2 / 64=2∧3<n∧b3 / 64=2∧b0 % 8*262144+b1 % 64*4096+b2 % 64*64+b3 % 64≥0x10000∧b0 % 8*262144+b1 % 64*4096+b2 % 64*64+b3 % 64≤1114111 then (b0 % 8*262144+b1 % 64*4096+b2 % 64*64+b3 % 64,4) else (0,0)
 else (0,0)
def seq (l:List UInt8):Nat×Nat:=seqN l.length (at0 l 0) (at0 l 1) (at0 l 2) (at0 l 3)
theorem valid_nat (c:Nat) (h:c≤1114111):Utf8.valid (c:Int)=true↔¬ (55296≤c∧c≤57343):=by
 constructor
 ·intro h1;have:=valid_le h1;omega
 ·intro h1;exact valid_of (by omega) (by omega) (by omega)
theorem two_of {t:List UInt8} (h:2<t.length+1):∃ b1 b2 u,t=b1::b2::u:=by
 match t,h with
 | b1::b2::u,_=>exact ⟨b1,b2,u,rfl⟩
theorem seq_dec (b0:UInt8) (t:List UInt8):seq (b0::t)=if brkL (b0::t)=true then (0,0) else dec (b0::t):=by
 have k0:=b0.toNat_lt;have k1:=at0_lt t 0;have k2:=at0_lt t 1;have k3:=at0_lt t 2;have hnot:b0.toNat≠239→((b0::t).take 3==[239,191,189])=false:=fun h=>by
  rw [beq_eq_false_iff_ne];intro e;obtain ⟨rest,hl⟩:=take_of_cons3 e;simp at hl;exact h (by rw [hl.1];rfl)
 have hbad:∀ w,dec (b0::t)=(65533,w)→b0.toNat≠239→brkL (b0::t)=true:=fun w e h=>by
  unfold brkL;rw [e,if_pos rfl,hnot h];rfl
 have hgood:∀ r w,dec (b0::t)=(r,w)→r≠65533→brkL (b0::t)=false:=fun r w e h=>by
  unfold brkL;rw [e,if_neg h]
 show seqN (t.length+1) b0.toNat (at0 t 0) (at0 t 1) (at0 t 2)=_;have hd:dec (b0::t)=decN (t.length+1) b0.toNat (at0 t 0) (at0 t 1) (at0 t 2):=rfl;unfold seqN;by_cases a:b0.toNat<0x80
 ·have e:dec (b0::t)=(b0.toNat,1):=by rw [hd];unfold decN;rw [if_pos a]
  rw [if_pos a,hgood _ _ e (by omega),if_neg (by simp),e]
 rw [if_neg a];by_cases b:b0.toNat / 32=6
 ·rw [if_pos b];by_cases c:1<t.length+1∧at0 t 0 / 64=2
  ·by_cases g:b0.toNat % 32*64+at0 t 0 % 64≥0x80
   ·have e:dec (b0::t)=(b0.toNat % 32*64+at0 t 0 % 64,2):=by rw [hd];unfold decN;rw [if_neg a,if_pos ⟨b,c⟩,if_pos g]
    rw [if_pos ⟨c.1,c.2,g⟩,hgood _ _ e (by omega),if_neg (by simp),e]
   ·have e:dec (b0::t)=(65533,1):=by rw [hd];unfold decN;rw [if_neg a,if_pos ⟨b,c⟩,if_neg g]
    rw [if_neg (fun h=>g h.2.2),hbad _ e (by omega),if_pos rfl]
  ·have e:dec (b0::t)=(65533,1):=by rw [hd];unfold decN;rw [if_neg a,if_neg (fun h=>c h.2),if_neg (by omega),if_neg (by omega)]
   rw [if_neg (fun h=>c ⟨h.1,h.2.1⟩),hbad _ e (by omega),if_pos rfl]
 rw [if_neg b];by_cases d:b0.toNat / 16=14
 ·rw [if_pos d];by_cases c:(1<t.length+1∧at0 t 0 / 64=2)∧2<t.length+1∧at0 t 1 / 64=2
  ·have hv:=valid_nat (b0.toNat % 16*4096+at0 t 0 % 64*64+at0 t 1 % 64) (by omega);by_cases g:b0.toNat % 16*4096+at0 t 0 % 64*64+at0 t 1 % 64≥0x800∧¬ (55296≤b0.toNat % 16*4096+at0 t 0 % 64*64+at0 t 1 % 64∧b0.toNat % 16*4096+at0 t 0 % 64*64+at0 t 1 % 64≤57343)
   ·have e:dec (b0::t)=(b0.toNat % 16*4096+at0 t 0 % 64*64+at0 t 1 % 64,3):=by rw [hd];unfold decN;rw [if_neg a,if_neg (fun h=>b h.1),if_pos ⟨d,c⟩,if_pos ⟨g.1,hv.2 g.2⟩]
    rw [if_pos ⟨c.1.1,c.1.2,c.2.1,c.2.2,g.1,g.2⟩];have hb:brkL (b0::t)=false:=by
     by_cases h6:b0.toNat % 16*4096+at0 t 0 % 64*64+at0 t 1 % 64=65533
     ·obtain ⟨b1,b2,u,rfl⟩:=two_of c.2.1;have q1:at0 (b1::b2::u) 0=b1.toNat:=rfl;have q2:at0 (b1::b2::u) 1=b2.toNat:=rfl;rw [q1,q2] at h6;rw [q1,q2] at c;rw [q1] at k1;rw [q2] at k2;have r0:b0=239:=UInt8.toNat_inj.1 (by show b0.toNat=239;omega);have r1:b1=191:=UInt8.toNat_inj.1 (by show b1.toNat=191;omega);have r2:b2=189:=UInt8.toNat_inj.1 (by show b2.toNat=189;omega);have hq:((b0::b1::b2::u).take 3==[239,191,189])=true:=by rw [r0,r1,r2];rfl
      unfold brkL;rw [hq];split<;>rfl
     ·exact hgood _ _ e h6
    rw [hb,if_neg (by simp),e]
   ·have e:dec (b0::t)=(65533,1):=by rw [hd];unfold decN;rw [if_neg a,if_neg (fun h=>b h.1),if_pos ⟨d,c⟩,if_neg (fun h=>g ⟨h.1,hv.1 h.2⟩)]
    rw [if_neg (fun h=>g ⟨h.2.2.2.2.1,h.2.2.2.2.2⟩)];have hb:brkL (b0::t)=true:=by
     unfold brkL;rw [e,if_pos rfl];cases hq:((b0::t).take 3==[239,191,189]) with
     | false=>rfl
     | true =>
      obtain ⟨rest,hl⟩:=take_of_cons3 (beq_iff_eq.1 hq);simp at hl;obtain ⟨rfl,rfl⟩:=hl;have z0:at0 (191::189::rest) 0=191:=rfl;have z1:at0 (191::189::rest) 1=189:=rfl;have z2:(239:UInt8).toNat=239:=rfl;rw [z0,z1,z2] at g;omega
    rw [hb,if_pos rfl]
  ·have e:dec (b0::t)=(65533,1):=by rw [hd];unfold decN;rw [if_neg a,if_neg (fun h=>b h.1),if_neg (fun h=>c h.2),if_neg (by omega)]
   rw [if_neg (fun h=>c ⟨⟨h.1,h.2.1⟩,h.2.2.1,h.2.2.2.1⟩)];have hb:brkL (b0::t)=true:=by
    unfold brkL;rw [e,if_pos rfl];cases hq:((b0::t).take 3==[239,191,189]) with
    | false=>rfl
    | true =>
     obtain ⟨rest,hl⟩:=take_of_cons3 (beq_iff_eq.1 hq);simp at hl;obtain ⟨rfl,rfl⟩:=hl;have z0:at0 (191::189::rest) 0=191:=rfl;have z1:at0 (191::189::rest) 1=189:=rfl;rw [z0,z1] at c;simp at c
   rw [hb,if_pos rfl]
 rw [if_neg d];by_cases f:b0.toNat / 8=30
 ·rw [if_pos f];by_cases c:(1<t.length+1∧at0 t 0 / 64=2)∧(2<t.length+1∧at0 t 1 / 64=2)∧3<t.length+1∧at0 t 2 / 64=2
  ·by_cases g:b0.toNat % 8*262144+at0 t 0 % 64*4096+at0 t 1 % 64*64+at0 t 2 % 64≥0x10000∧b0.toNat % 8*262144+at0 t 0 % 64*4096+at0 t 1 % 64*64+at0 t 2 % 64≤1114111
   ·have hv:=(valid_nat _ g.2).2 (by omega);have e:dec (b0::t)=(b0.toNat % 8*262144+at0 t 0 % 64*4096+at0 t 1 % 64*64+at0 t 2 % 64,4):=by rw [hd];unfold decN;rw [if_neg a,if_neg (fun h=>b h.1),if_neg (fun h=>d h.1),if_pos ⟨f,c⟩,if_pos ⟨g.1,hv⟩]
    rw [if_pos ⟨c.1.1,c.1.2,c.2.1.1,c.2.1.2,c.2.2.1,c.2.2.2,g.1,g.2⟩,hgood _ _ e (by omega),if_neg (by simp),e]
   ·have e:dec (b0::t)=(65533,1):=by
     rw [hd];unfold decN;rw [if_neg a,if_neg (fun h=>b h.1),if_neg (fun h=>d h.1),if_pos ⟨f,c⟩,if_neg (fun h=>g ⟨h.1,by have:=(valid_le h.2).2.1;omega⟩)]
    rw [if_neg (fun h=>g ⟨h.2.2.2.2.2.2.1,h.2.2.2.2.2.2.2⟩),hbad _ e (by omega),if_pos rfl]
  ·have e:dec (b0::t)=(65533,1):=by rw [hd];unfold decN;rw [if_neg a,if_neg (fun h=>b h.1),if_neg (fun h=>d h.1),if_neg (fun h=>c h.2)]
   rw [if_neg (fun h=>c ⟨⟨h.1,h.2.1⟩,⟨h.2.2.1,h.2.2.2.1⟩,h.2.2.2.2.1,h.2.2.2.2.2.1⟩),hbad _ e (by omega),if_pos rfl]
 ·have e:dec (b0::t)=(65533,1):=by rw [hd];unfold decN;rw [if_neg a,if_neg (fun h=>b h.1),if_neg (fun h=>d h.1),if_neg (fun h=>f h.1)]
  rw [if_neg f,hbad _ e (by omega),if_pos rfl]
end Go.Proofs.YtijpfbcippijoaaGreatDoor
namespace Go.Proofs.YtijpfbcippijoaaGreatDoor
open Go.RowKit Go.Lib
theorem byte_at (s:ByteArray) (i k:Nat) (h:i+k<s.size):at0 (s.data.toList.drop i) k=(s[i+k]'h).toNat:=by
 unfold at0;rw [List.getD_eq_getElem?_getD,List.getElem?_drop,Array.getElem?_toList,Array.getElem?_eq_getElem h];rfl
theorem byte_run (s:ByteArray) (i k:Nat) (hi:i+k<s.size) (w:World):(Instr.index 9 (.string s) (.int .i64 ((i:Int)+k))).run Tryz.prog w=.ok (.int .u8 (at0 (s.data.toList.drop i) k)) w:=by
 rw [run_index_string _ _ _ _ _ Tryz.underlying9];rw [dif_pos (by omega),byte_at s i k hi];have e:((i:Int)+k).toNat=i+k:=by omega
 simp only [e]
theorem byte_run0 (s:ByteArray) (i:Nat) (hi:i<s.size) (w:World):(Instr.index 9 (.string s) (.int .i64 i)).run Tryz.prog w=.ok (.int .u8 (at0 (s.data.toList.drop i) 0)) w:=by
 have:=byte_run s i 0 hi w;simpa using this
theorem sq1 (s:ByteArray) (_hs:s.size≤9223372036854775000) (i:Nat) (hi:i<s.size) (w:World) (x:Int) (hx:∀ w,(Instr.index 9 (.string s) (.int .i64 (i:Int))).run Tryz.prog w=.ok (.int .u8 x) w) (h1:0≤x) (h2:x<128) :
  Calls Tryz.prog 66 #[.string s,.int .i64 i] w fun e w'=>e=.returned (.tuple #[.int .i64 (x),.int .i64 1])∧w'=w:=by
 have _rhi:=hi;go_enter Tryz.func66,Tryz.ntmps66;go_wp2_with fail;go_ret2;exact ⟨rfl,rfl⟩
theorem sq0 (s:ByteArray) (_hs:s.size≤9223372036854775000) (i:Nat) (hi:i<s.size) (w:World) (x:Int) (hx:∀ w,(Instr.index 9 (.string s) (.int .i64 (i:Int))).run Tryz.prog w=.ok (.int .u8 x) w) (h1:128≤x) (h9:x≤255) (q1:(x / 32==6)=false) (q2:(x / 16==14)=false) (q3:(x / 8==30)=false) :
  Calls Tryz.prog 66 #[.string s,.int .i64 i] w fun e w'=>e=.returned (.tuple #[.int .i64 (0),.int .i64 0])∧w'=w:=by
 have _rhi:=hi;go_enter Tryz.func66,Tryz.ntmps66;go_wp2_with fail;go_ret2;exact ⟨rfl,rfl⟩
theorem sq2s1 (s:ByteArray) (hs:s.size≤9223372036854775000) (i:Nat) (hi:i<s.size) (w:World) (x:Int) (hx:∀ w,(Instr.index 9 (.string s) (.int .i64 (i:Int))).run Tryz.prog w=.ok (.int .u8 x) w) (h1:128≤x) (h9:x≤255) (q1:(x / 32==6)=true) (hl:s.size≤i+1) :
  Calls Tryz.prog 66 #[.string s,.int .i64 i] w fun e w'=>e=.returned (.tuple #[.int .i64 (0),.int .i64 0])∧w'=w:=by
 have _rhi:=hi;go_enter Tryz.func66,Tryz.ntmps66;go_wp2_with fail;refine wp_loop_rounds 5 ?_;rw [rounds_succ];go_wp2_with fail;go_ret2;exact ⟨rfl,rfl⟩
theorem sq2b1 (s:ByteArray) (hs:s.size≤9223372036854775000) (i:Nat) (hi:i<s.size) (w:World) (x:Int) (hx:∀ w,(Instr.index 9 (.string s) (.int .i64 (i:Int))).run Tryz.prog w=.ok (.int .u8 x) w) (h1:128≤x) (h9:x≤255) (q1:(x / 32==6)=true) (hl1:i+1<s.size) (y:Int) (hy:∀ w,(Instr.index 9 (.string s) (.int .i64 ((i:Int)+1))).run Tryz.prog w=.ok (.int .u8 y) w) (ay:0≤y) (upy:y≤255) (cy:(y / 64 != 2)=true) :
  Calls Tryz.prog 66 #[.string s,.int .i64 i] w fun e w'=>e=.returned (.tuple #[.int .i64 (0),.int .i64 0])∧w'=w:=by
 have _rhi:=hi;have _rhl1:=hl1;go_enter Tryz.func66,Tryz.ntmps66;go_wp2_with fail;refine wp_loop_rounds 5 ?_;rw [rounds_succ];go_wp2_with fail;go_ret2;exact ⟨rfl,rfl⟩
theorem sq2l (s:ByteArray) (hs:s.size≤9223372036854775000) (i:Nat) (hi:i<s.size) (w:World) (x:Int) (hx:∀ w,(Instr.index 9 (.string s) (.int .i64 (i:Int))).run Tryz.prog w=.ok (.int .u8 x) w) (h1:128≤x) (h9:x≤255) (q1:(x / 32==6)=true) (hl1:i+1<s.size) (y:Int) (hy:∀ w,(Instr.index 9 (.string s) (.int .i64 ((i:Int)+1))).run Tryz.prog w=.ok (.int .u8 y) w) (ay:0≤y) (upy:y≤255) (cy:(y / 64 != 2)=false) (hv:(x % 32)*64+y % 64<128) :
  Calls Tryz.prog 66 #[.string s,.int .i64 i] w fun e w'=>e=.returned (.tuple #[.int .i64 (0),.int .i64 0])∧w'=w:=by
 have _rhi:=hi;have _rhl1:=hl1;go_enter Tryz.func66,Tryz.ntmps66;go_wp2_with fail;refine wp_loop_rounds 5 ?_;rw [rounds_succ];go_wp2_with fail;rw [rounds_succ];go_wp2_with fail;go_ret2;exact ⟨rfl,rfl⟩
theorem sq2o (s:ByteArray) (hs:s.size≤9223372036854775000) (i:Nat) (hi:i<s.size) (w:World) (x:Int) (hx:∀ w,(Instr.index 9 (.string s) (.int .i64 (i:Int))).run Tryz.prog w=.ok (.int .u8 x) w) (h1:128≤x) (h9:x≤255) (q1:(x / 32==6)=true) (hl1:i+1<s.size) (y:Int) (hy:∀ w,(Instr.index 9 (.string s) (.int .i64 ((i:Int)+1))).run Tryz.prog w=.ok (.int .u8 y) w) (ay:0≤y) (upy:y≤255) (cy:(y / 64 != 2)=false) (hv:128≤(x % 32)*64+y % 64) :
  Calls Tryz.prog 66 #[.string s,.int .i64 i] w fun e w'=>e=.returned (.tuple #[.int .i64 ((x % 32)*64+y % 64),.int .i64 2])∧w'=w:=by
 have _rhi:=hi;have _rhl1:=hl1;go_enter Tryz.func66,Tryz.ntmps66;go_wp2_with fail;refine wp_loop_rounds 5 ?_;rw [rounds_succ];go_wp2_with fail;rw [rounds_succ];go_wp2_with fail;go_ret2;exact ⟨rfl,rfl⟩
theorem sq3s1 (s:ByteArray) (hs:s.size≤9223372036854775000) (i:Nat) (hi:i<s.size) (w:World) (x:Int) (hx:∀ w,(Instr.index 9 (.string s) (.int .i64 (i:Int))).run Tryz.prog w=.ok (.int .u8 x) w) (h1:128≤x) (h9:x≤255) (q1:(x / 32==6)=false) (q2:(x / 16==14)=true) (hl:s.size≤i+1) :
  Calls Tryz.prog 66 #[.string s,.int .i64 i] w fun e w'=>e=.returned (.tuple #[.int .i64 (0),.int .i64 0])∧w'=w:=by
 have _rhi:=hi;go_enter Tryz.func66,Tryz.ntmps66;go_wp2_with fail;refine wp_loop_rounds 5 ?_;rw [rounds_succ];go_wp2_with fail;go_ret2;exact ⟨rfl,rfl⟩
theorem sq3b1 (s:ByteArray) (hs:s.size≤9223372036854775000) (i:Nat) (hi:i<s.size) (w:World) (x:Int) (hx:∀ w,(Instr.index 9 (.string s) (.int .i64 (i:Int))).run Tryz.prog w=.ok (.int .u8 x) w) (h1:128≤x) (h9:x≤255) (q1:(x / 32==6)=false) (q2:(x / 16==14)=true) (hl1:i+1<s.size) (y:Int) (hy:∀ w,(Instr.index 9 (.string s) (.int .i64 ((i:Int)+1))).run Tryz.prog w=.ok (.int .u8 y) w) (ay:0≤y) (upy:y≤255) (cy:(y / 64 != 2)=true) :
  Calls Tryz.prog 66 #[.string s,.int .i64 i] w fun e w'=>e=.returned (.tuple #[.int .i64 (0),.int .i64 0])∧w'=w:=by
 have _rhi:=hi;have _rhl1:=hl1;go_enter Tryz.func66,Tryz.ntmps66;go_wp2_with fail;refine wp_loop_rounds 5 ?_;rw [rounds_succ];go_wp2_with fail;go_ret2;exact ⟨rfl,rfl⟩
theorem sq3s2 (s:ByteArray) (hs:s.size≤9223372036854775000) (i:Nat) (hi:i<s.size) (w:World) (x:Int) (hx:∀ w,(Instr.index 9 (.string s) (.int .i64 (i:Int))).run Tryz.prog w=.ok (.int .u8 x) w) (h1:128≤x) (h9:x≤255) (q1:(x / 32==6)=false) (q2:(x / 16==14)=true) (hl1:i+1<s.size) (y:Int) (hy:∀ w,(Instr.index 9 (.string s) (.int .i64 ((i:Int)+1))).run Tryz.prog w=.ok (.int .u8 y) w) (ay:0≤y) (upy:y≤255) (cy:(y / 64 != 2)=false) (hl:s.size≤i+2) :
  Calls Tryz.prog 66 #[.string s,.int .i64 i] w fun e w'=>e=.returned (.tuple #[.int .i64 (0),.int .i64 0])∧w'=w:=by
 have _rhi:=hi;have _rhl1:=hl1;go_enter Tryz.func66,Tryz.ntmps66;go_wp2_with fail;refine wp_loop_rounds 5 ?_;rw [rounds_succ];go_wp2_with fail;rw [rounds_succ];go_wp2_with fail;go_ret2;exact ⟨rfl,rfl⟩
theorem sq3b2 (s:ByteArray) (hs:s.size≤9223372036854775000) (i:Nat) (hi:i<s.size) (w:World) (x:Int) (hx:∀ w,(Instr.index 9 (.string s) (.int .i64 (i:Int))).run Tryz.prog w=.ok (.int .u8 x) w) (h1:128≤x) (h9:x≤255) (q1:(x / 32==6)=false) (q2:(x / 16==14)=true) (hl1:i+1<s.size) (y:Int) (hy:∀ w,(Instr.index 9 (.string s) (.int .i64 ((i:Int)+1))).run Tryz.prog w=.ok (.int .u8 y) w) (ay:0≤y) (upy:y≤255) (cy:(y / 64 != 2)=false) (hl2:i+2<s.size) (z:Int) (hz:∀ w,(Instr.index 9 (.string s) (.int .i64 ((i:Int)+2))).run Tryz.prog w=.ok (.int .u8 z) w) (az:0≤z) (upz:z≤255) (cz:(z / 64 != 2)=true) :
  Calls Tryz.prog 66 #[.string s,.int .i64 i] w fun e w'=>e=.returned (.tuple #[.int .i64 (0),.int .i64 0])∧w'=w:=by
 have _rhi:=hi;have _rhl1:=hl1;have _rhl2:=hl2;go_enter Tryz.func66,Tryz.ntmps66;go_wp2_with fail;refine wp_loop_rounds 5 ?_;rw [rounds_succ];go_wp2_with fail;rw [rounds_succ];go_wp2_with fail;go_ret2;exact ⟨rfl,rfl⟩
theorem sq3l (s:ByteArray) (hs:s.size≤9223372036854775000) (i:Nat) (hi:i<s.size) (w:World) (x:Int) (hx:∀ w,(Instr.index 9 (.string s) (.int .i64 (i:Int))).run Tryz.prog w=.ok (.int .u8 x) w) (h1:128≤x) (h9:x≤255) (q1:(x / 32==6)=false) (q2:(x / 16==14)=true) (hl1:i+1<s.size) (y:Int) (hy:∀ w,(Instr.index 9 (.string s) (.int .i64 ((i:Int)+1))).run Tryz.prog w=.ok (.int .u8 y) w) (ay:0≤y) (upy:y≤255) (cy:(y / 64 != 2)=false) (hl2:i+2<s.size) (z:Int) (hz:∀ w,(Instr.index 9 (.string s) (.int .i64 ((i:Int)+2))).run Tryz.prog w=.ok (.int .u8 z) w) (az:0≤z) (upz:z≤255) (cz:(z / 64 != 2)=false) (hv:((x % 16)*64+y % 64)*64+z % 64<2048) :
  Calls Tryz.prog 66 #[.string s,.int .i64 i] w fun e w'=>e=.returned (.tuple #[.int .i64 (0),.int .i64 0])∧w'=w:=by
 have _rhi:=hi;have _rhl1:=hl1;have _rhl2:=hl2;go_enter Tryz.func66,Tryz.ntmps66;go_wp2_with fail;refine wp_loop_rounds 5 ?_;rw [rounds_succ];go_wp2_with fail;rw [rounds_succ];go_wp2_with fail;rw [rounds_succ];go_wp2_with fail;go_ret2;exact ⟨rfl,rfl⟩
theorem sq3m (s:ByteArray) (hs:s.size≤9223372036854775000) (i:Nat) (hi:i<s.size) (w:World) (x:Int) (hx:∀ w,(Instr.index 9 (.string s) (.int .i64 (i:Int))).run Tryz.prog w=.ok (.int .u8 x) w) (h1:128≤x) (h9:x≤255) (q1:(x / 32==6)=false) (q2:(x / 16==14)=true) (hl1:i+1<s.size) (y:Int) (hy:∀ w,(Instr.index 9 (.string s) (.int .i64 ((i:Int)+1))).run Tryz.prog w=.ok (.int .u8 y) w) (ay:0≤y) (upy:y≤255) (cy:(y / 64 != 2)=false) (hl2:i+2<s.size) (z:Int) (hz:∀ w,(Instr.index 9 (.string s) (.int .i64 ((i:Int)+2))).run Tryz.prog w=.ok (.int .u8 z) w) (az:0≤z) (upz:z≤255) (cz:(z / 64 != 2)=false) (hv:2048≤((x % 16)*64+y % 64)*64+z % 64) (hv2:55296≤((x % 16)*64+y % 64)*64+z % 64) (hv3:((x % 16)*64+y % 64)*64+z % 64≤57343) :
  Calls Tryz.prog 66 #[.string s,.int .i64 i] w fun e w'=>e=.returned (.tuple #[.int .i64 (0),.int .i64 0])∧w'=w:=by
 have _rhi:=hi;have _rhl1:=hl1;have _rhl2:=hl2;go_enter Tryz.func66,Tryz.ntmps66;go_wp2_with fail;refine wp_loop_rounds 5 ?_;rw [rounds_succ];go_wp2_with fail;rw [rounds_succ];go_wp2_with fail;rw [rounds_succ];go_wp2_with fail;go_ret2;exact ⟨rfl,rfl⟩
theorem sq3o (s:ByteArray) (hs:s.size≤9223372036854775000) (i:Nat) (hi:i<s.size) (w:World) (x:Int) (hx:∀ w,(Instr.index 9 (.string s) (.int .i64 (i:Int))).run Tryz.prog w=.ok (.int .u8 x) w) (h1:128≤x) (h9:x≤255) (q1:(x / 32==6)=false) (q2:(x / 16==14)=true) (hl1:i+1<s.size) (y:Int) (hy:∀ w,(Instr.index 9 (.string s) (.int .i64 ((i:Int)+1))).run Tryz.prog w=.ok (.int .u8 y) w) (ay:0≤y) (upy:y≤255) (cy:(y / 64 != 2)=false) (hl2:i+2<s.size) (z:Int) (hz:∀ w,(Instr.index 9 (.string s) (.int .i64 ((i:Int)+2))).run Tryz.prog w=.ok (.int .u8 z) w) (az:0≤z) (upz:z≤255) (cz:(z / 64 != 2)=false) (hv:2048≤((x % 16)*64+y % 64)*64+z % 64) (hv2:((x % 16)*64+y % 64)*64+z % 64<55296) :
  Calls Tryz.prog 66 #[.string s,.int .i64 i] w fun e w'=>e=.returned (.tuple #[.int .i64 (((x % 16)*64+y % 64)*64+z % 64),.int .i64 3])∧w'=w:=by
 have _rhi:=hi;have _rhl1:=hl1;have _rhl2:=hl2;go_enter Tryz.func66,Tryz.ntmps66;go_wp2_with fail;refine wp_loop_rounds 5 ?_;rw [rounds_succ];go_wp2_with fail;rw [rounds_succ];go_wp2_with fail;rw [rounds_succ];go_wp2_with fail;go_ret2;exact ⟨rfl,rfl⟩
theorem sq3p (s:ByteArray) (hs:s.size≤9223372036854775000) (i:Nat) (hi:i<s.size) (w:World) (x:Int) (hx:∀ w,(Instr.index 9 (.string s) (.int .i64 (i:Int))).run Tryz.prog w=.ok (.int .u8 x) w) (h1:128≤x) (h9:x≤255) (q1:(x / 32==6)=false) (q2:(x / 16==14)=true) (hl1:i+1<s.size) (y:Int) (hy:∀ w,(Instr.index 9 (.string s) (.int .i64 ((i:Int)+1))).run Tryz.prog w=.ok (.int .u8 y) w) (ay:0≤y) (upy:y≤255) (cy:(y / 64 != 2)=false) (hl2:i+2<s.size) (z:Int) (hz:∀ w,(Instr.index 9 (.string s) (.int .i64 ((i:Int)+2))).run Tryz.prog w=.ok (.int .u8 z) w) (az:0≤z) (upz:z≤255) (cz:(z / 64 != 2)=false) (hv:2048≤((x % 16)*64+y % 64)*64+z % 64) (hv2:57343<((x % 16)*64+y % 64)*64+z % 64) :
  Calls Tryz.prog 66 #[.string s,.int .i64 i] w fun e w'=>e=.returned (.tuple #[.int .i64 (((x % 16)*64+y % 64)*64+z % 64),.int .i64 3])∧w'=w:=by
 have _rhi:=hi;have _rhl1:=hl1;have _rhl2:=hl2;go_enter Tryz.func66,Tryz.ntmps66;go_wp2_with fail;refine wp_loop_rounds 5 ?_;rw [rounds_succ];go_wp2_with fail;rw [rounds_succ];go_wp2_with fail;rw [rounds_succ];go_wp2_with fail;go_ret2;exact ⟨rfl,rfl⟩
theorem sq4s1 (s:ByteArray) (hs:s.size≤9223372036854775000) (i:Nat) (hi:i<s.size) (w:World) (x:Int) (hx:∀ w,(Instr.index 9 (.string s) (.int .i64 (i:Int))).run Tryz.prog w=.ok (.int .u8 x) w) (h1:128≤x) (h9:x≤255) (q1:(x / 32==6)=false) (q2:(x / 16==14)=false) (q3:(x / 8==30)=true) (hl:s.size≤i+1) :
  Calls Tryz.prog 66 #[.string s,.int .i64 i] w fun e w'=>e=.returned (.tuple #[.int .i64 (0),.int .i64 0])∧w'=w:=by
 have _rhi:=hi;go_enter Tryz.func66,Tryz.ntmps66;go_wp2_with fail;refine wp_loop_rounds 5 ?_;rw [rounds_succ];go_wp2_with fail;go_ret2;exact ⟨rfl,rfl⟩
theorem sq4b1 (s:ByteArray) (hs:s.size≤9223372036854775000) (i:Nat) (hi:i<s.size) (w:World) (x:Int) (hx:∀ w,(Instr.index 9 (.string s) (.int .i64 (i:Int))).run Tryz.prog w=.ok (.int .u8 x) w) (h1:128≤x) (h9:x≤255) (q1:(x / 32==6)=false) (q2:(x / 16==14)=false) (q3:(x / 8==30)=true) (hl1:i+1<s.size) (y:Int) (hy:∀ w,(Instr.index 9 (.string s) (.int .i64 ((i:Int)+1))).run Tryz.prog w=.ok (.int .u8 y) w) (ay:0≤y) (upy:y≤255) (cy:(y / 64 != 2)=true) :
  Calls Tryz.prog 66 #[.string s,.int .i64 i] w fun e w'=>e=.returned (.tuple #[.int .i64 (0),.int .i64 0])∧w'=w:=by
 have _rhi:=hi;have _rhl1:=hl1;go_enter Tryz.func66,Tryz.ntmps66;go_wp2_with fail;refine wp_loop_rounds 5 ?_;rw [rounds_succ];go_wp2_with fail;go_ret2;exact ⟨rfl,rfl⟩
theorem sq4s2 (s:ByteArray) (hs:s.size≤9223372036854775000) (i:Nat) (hi:i<s.size) (w:World) (x:Int) (hx:∀ w,(Instr.index 9 (.string s) (.int .i64 (i:Int))).run Tryz.prog w=.ok (.int .u8 x) w) (h1:128≤x) (h9:x≤255) (q1:(x / 32==6)=false) (q2:(x / 16==14)=false) (q3:(x / 8==30)=true) (hl1:i+1<s.size) (y:Int) (hy:∀ w,(Instr.index 9 (.string s) (.int .i64 ((i:Int)+1))).run Tryz.prog w=.ok (.int .u8 y) w) (ay:0≤y) (upy:y≤255) (cy:(y / 64 != 2)=false) (hl:s.size≤i+2) :
  Calls Tryz.prog 66 #[.string s,.int .i64 i] w fun e w'=>e=.returned (.tuple #[.int .i64 (0),.int .i64 0])∧w'=w:=by
 have _rhi:=hi;have _rhl1:=hl1;go_enter Tryz.func66,Tryz.ntmps66;go_wp2_with fail;refine wp_loop_rounds 5 ?_;rw [rounds_succ];go_wp2_with fail;rw [rounds_succ];go_wp2_with fail;go_ret2;exact ⟨rfl,rfl⟩
theorem sq4b2 (s:ByteArray) (hs:s.size≤9223372036854775000) (i:Nat) (hi:i<s.size) (w:World) (x:Int) (hx:∀ w,(Instr.index 9 (.string s) (.int .i64 (i:Int))).run Tryz.prog w=.ok (.int .u8 x) w) (h1:128≤x) (h9:x≤255) (q1:(x / 32==6)=false) (q2:(x / 16==14)=false) (q3:(x / 8==30)=true) (hl1:i+1<s.size) (y:Int) (hy:∀ w,(Instr.index 9 (.string s) (.int .i64 ((i:Int)+1))).run Tryz.prog w=.ok (.int .u8 y) w) (ay:0≤y) (upy:y≤255) (cy:(y / 64 != 2)=false) (hl2:i+2<s.size) (z:Int) (hz:∀ w,(Instr.index 9 (.string s) (.int .i64 ((i:Int)+2))).run Tryz.prog w=.ok (.int .u8 z) w) (az:0≤z) (upz:z≤255) (cz:(z / 64 != 2)=true) :
  Calls Tryz.prog 66 #[.string s,.int .i64 i] w fun e w'=>e=.returned (.tuple #[.int .i64 (0),.int .i64 0])∧w'=w:=by
 have _rhi:=hi;have _rhl1:=hl1;have _rhl2:=hl2;go_enter Tryz.func66,Tryz.ntmps66;go_wp2_with fail;refine wp_loop_rounds 5 ?_;rw [rounds_succ];go_wp2_with fail;rw [rounds_succ];go_wp2_with fail;go_ret2;exact ⟨rfl,rfl⟩
theorem sq4s3 (s:ByteArray) (hs:s.size≤9223372036854775000) (i:Nat) (hi:i<s.size) (w:World) (x:Int) (hx:∀ w,(Instr.index 9 (.string s) (.int .i64 (i:Int))).run Tryz.prog w=.ok (.int .u8 x) w) (h1:128≤x) (h9:x≤255) (q1:(x / 32==6)=false) (q2:(x / 16==14)=false) (q3:(x / 8==30)=true) (hl1:i+1<s.size) (y:Int) (hy:∀ w,(Instr.index 9 (.string s) (.int .i64 ((i:Int)+1))).run Tryz.prog w=.ok (.int .u8 y) w) (ay:0≤y) (upy:y≤255) (cy:(y / 64 != 2)=false) (hl2:i+2<s.size) (z:Int) (hz:∀ w,(Instr.index 9 (.string s) (.int .i64 ((i:Int)+2))).run Tryz.prog w=.ok (.int .u8 z) w) (az:0≤z) (upz:z≤255) (cz:(z / 64 != 2)=false) (hl:s.size≤i+3) :
  Calls Tryz.prog 66 #[.string s,.int .i64 i] w fun e w'=>e=.returned (.tuple #[.int .i64 (0),.int .i64 0])∧w'=w:=by
 have _rhi:=hi;have _rhl1:=hl1;have _rhl2:=hl2;go_enter Tryz.func66,Tryz.ntmps66;go_wp2_with fail;refine wp_loop_rounds 5 ?_;rw [rounds_succ];go_wp2_with fail;rw [rounds_succ];go_wp2_with fail;rw [rounds_succ];go_wp2_with fail;go_ret2;exact ⟨rfl,rfl⟩
theorem sq4b3 (s:ByteArray) (hs:s.size≤9223372036854775000) (i:Nat) (hi:i<s.size) (w:World) (x:Int) (hx:∀ w,(Instr.index 9 (.string s) (.int .i64 (i:Int))).run Tryz.prog w=.ok (.int .u8 x) w) (h1:128≤x) (h9:x≤255) (q1:(x / 32==6)=false) (q2:(x / 16==14)=false) (q3:(x / 8==30)=true) (hl1:i+1<s.size) (y:Int) (hy:∀ w,(Instr.index 9 (.string s) (.int .i64 ((i:Int)+1))).run Tryz.prog w=.ok (.int .u8 y) w) (ay:0≤y) (upy:y≤255) (cy:(y / 64 != 2)=false) (hl2:i+2<s.size) (z:Int) (hz:∀ w,(Instr.index 9 (.string s) (.int .i64 ((i:Int)+2))).run Tryz.prog w=.ok (.int .u8 z) w) (az:0≤z) (upz:z≤255) (cz:(z / 64 != 2)=false) (hl3:i+3<s.size) (u:Int) (hu:∀ w,(Instr.index 9 (.string s) (.int .i64 ((i:Int)+3))).run Tryz.prog w=.ok (.int .u8 u) w) (au:0≤u) (upu:u≤255) (cu:(u / 64 != 2)=true) :
  Calls Tryz.prog 66 #[.string s,.int .i64 i] w fun e w'=>e=.returned (.tuple #[.int .i64 (0),.int .i64 0])∧w'=w:=by
 have _rhi:=hi;have _rhl1:=hl1;have _rhl2:=hl2;have _rhl3:=hl3;go_enter Tryz.func66,Tryz.ntmps66;go_wp2_with fail;refine wp_loop_rounds 5 ?_;rw [rounds_succ];go_wp2_with fail;rw [rounds_succ];go_wp2_with fail;rw [rounds_succ];go_wp2_with fail;go_ret2;exact ⟨rfl,rfl⟩
theorem sq4l (s:ByteArray) (hs:s.size≤9223372036854775000) (i:Nat) (hi:i<s.size) (w:World) (x:Int) (hx:∀ w,(Instr.index 9 (.string s) (.int .i64 (i:Int))).run Tryz.prog w=.ok (.int .u8 x) w) (h1:128≤x) (h9:x≤255) (q1:(x / 32==6)=false) (q2:(x / 16==14)=false) (q3:(x / 8==30)=true) (hl1:i+1<s.size) (y:Int) (hy:∀ w,(Instr.index 9 (.string s) (.int .i64 ((i:Int)+1))).run Tryz.prog w=.ok (.int .u8 y) w) (ay:0≤y) (upy:y≤255) (cy:(y / 64 != 2)=false) (hl2:i+2<s.size) (z:Int) (hz:∀ w,(Instr.index 9 (.string s) (.int .i64 ((i:Int)+2))).run Tryz.prog w=.ok (.int .u8 z) w) (az:0≤z) (upz:z≤255) (cz:(z / 64 != 2)=false) (hl3:i+3<s.size) (u:Int) (hu:∀ w,(Instr.index 9 (.string s) (.int .i64 ((i:Int)+3))).run Tryz.prog w=.ok (.int .u8 u) w) (au:0≤u) (upu:u≤255) (cu:(u / 64 != 2)=false) (hv:(((x % 8)*64+y % 64)*64+z % 64)*64+u % 64<65536) :
  Calls Tryz.prog 66 #[.string s,.int .i64 i] w fun e w'=>e=.returned (.tuple #[.int .i64 (0),.int .i64 0])∧w'=w:=by
 have _rhi:=hi;have _rhl1:=hl1;have _rhl2:=hl2;have _rhl3:=hl3;go_enter Tryz.func66,Tryz.ntmps66;go_wp2_with fail;refine wp_loop_rounds 5 ?_;rw [rounds_succ];go_wp2_with fail;rw [rounds_succ];go_wp2_with fail;rw [rounds_succ];go_wp2_with fail;rw [rounds_succ];go_wp2_with fail;go_ret2;exact ⟨rfl,rfl⟩
theorem sq4m (s:ByteArray) (hs:s.size≤9223372036854775000) (i:Nat) (hi:i<s.size) (w:World) (x:Int) (hx:∀ w,(Instr.index 9 (.string s) (.int .i64 (i:Int))).run Tryz.prog w=.ok (.int .u8 x) w) (h1:128≤x) (h9:x≤255) (q1:(x / 32==6)=false) (q2:(x / 16==14)=false) (q3:(x / 8==30)=true) (hl1:i+1<s.size) (y:Int) (hy:∀ w,(Instr.index 9 (.string s) (.int .i64 ((i:Int)+1))).run Tryz.prog w=.ok (.int .u8 y) w) (ay:0≤y) (upy:y≤255) (cy:(y / 64 != 2)=false) (hl2:i+2<s.size) (z:Int) (hz:∀ w,(Instr.index 9 (.string s) (.int .i64 ((i:Int)+2))).run Tryz.prog w=.ok (.int .u8 z) w) (az:0≤z) (upz:z≤255) (cz:(z / 64 != 2)=false) (hl3:i+3<s.size) (u:Int) (hu:∀ w,(Instr.index 9 (.string s) (.int .i64 ((i:Int)+3))).run Tryz.prog w=.ok (.int .u8 u) w) (au:0≤u) (upu:u≤255) (cu:(u / 64 != 2)=false) (hv:1114111<(((x % 8)*64+y % 64)*64+z % 64)*64+u % 64) :
  Calls Tryz.prog 66 #[.string s,.int .i64 i] w fun e w'=>e=.returned (.tuple #[.int .i64 (0),.int .i64 0])∧w'=w:=by
 have _rhi:=hi;have _rhl1:=hl1;have _rhl2:=hl2;have _rhl3:=hl3;go_enter Tryz.func66,Tryz.ntmps66;go_wp2_with fail;refine wp_loop_rounds 5 ?_;rw [rounds_succ];go_wp2_with fail;rw [rounds_succ];go_wp2_with fail;rw [rounds_succ];go_wp2_with fail;rw [rounds_succ];go_wp2_with fail;go_ret2;exact ⟨rfl,rfl⟩
theorem sq4o (s:ByteArray) (hs:s.size≤9223372036854775000) (i:Nat) (hi:i<s.size) (w:World) (x:Int) (hx:∀ w,(Instr.index 9 (.string s) (.int .i64 (i:Int))).run Tryz.prog w=.ok (.int .u8 x) w) (h1:128≤x) (h9:x≤255) (q1:(x / 32==6)=false) (q2:(x / 16==14)=false) (q3:(x / 8==30)=true) (hl1:i+1<s.size) (y:Int) (hy:∀ w,(Instr.index 9 (.string s) (.int .i64 ((i:Int)+1))).run Tryz.prog w=.ok (.int .u8 y) w) (ay:0≤y) (upy:y≤255) (cy:(y / 64 != 2)=false) (hl2:i+2<s.size) (z:Int) (hz:∀ w,(Instr.index 9 (.string s) (.int .i64 ((i:Int)+2))).run Tryz.prog w=.ok (.int .u8 z) w) (az:0≤z) (upz:z≤255) (cz:(z / 64 != 2)=false) (hl3:i+3<s.size) (u:Int) (hu:∀ w,(Instr.index 9 (.string s) (.int .i64 ((i:Int)+3))).run Tryz.prog w=.ok (.int .u8 u) w) (au:0≤u) (upu:u≤255) (cu:(u / 64 != 2)=false) (hv:65536≤(((x % 8)*64+y % 64)*64+z % 64)*64+u % 64) (hv2:(((x % 8)*64+y % 64)*64+z % 64)*64+u % 64≤1114111) :
  Calls Tryz.prog 66 #[.string s,.int .i64 i] w fun e w'=>e=.returned (.tuple #[.int .i64 ((((x % 8)*64+y % 64)*64+z % 64)*64+u % 64),.int .i64 4])∧w'=w:=by
 have _rhi:=hi;have _rhl1:=hl1;have _rhl2:=hl2;have _rhl3:=hl3;go_enter Tryz.func66,Tryz.ntmps66;go_wp2_with fail;refine wp_loop_rounds 5 ?_;rw [rounds_succ];go_wp2_with fail;rw [rounds_succ];go_wp2_with fail;rw [rounds_succ];go_wp2_with fail;rw [rounds_succ];go_wp2_with fail;go_ret2;exact ⟨rfl,rfl⟩
theorem beqI_true {a b:Int} (h:a=b):(a==b)=true:=beq_iff_eq.2 h
theorem beqI_false {a b:Int} (h:¬ a=b):(a==b)=false:=nB h
theorem bneI_true {a b:Int} (h:¬ a=b):(a != b)=true:=by simp [h]
theorem bneI_false {a b:Int} (h:a=b):(a != b)=false:=by simp [h]
theorem seq_any (s:ByteArray) (hs:s.size≤9223372036854775000) (i:Nat) (hi:i<s.size) (w:World) :
  Calls Tryz.prog 66 #[.string s,.int .i64 i] w fun e w'=>e=.returned (.tuple #[.int .i64 (seq (s.data.toList.drop i)).1,.int .i64 (seq (s.data.toList.drop i)).2])∧w'=w:=by
 have hlen:(s.data.toList.drop i).length=s.size-i:=by rw [List.length_drop,← size_data]
 have X0:=fun w=>byte_run0 s i hi w
 have X1:=fun (h:i+1<s.size) w=>byte_run s i 1 h w
 have X2:=fun (h:i+2<s.size) w=>byte_run s i 2 h w
 have X3:=fun (h:i+3<s.size) w=>byte_run s i 3 h w
 unfold seq;rw [hlen];have l0:=at0_lt (s.data.toList.drop i) 0;have l1:=at0_lt (s.data.toList.drop i) 1;have l2:=at0_lt (s.data.toList.drop i) 2;have l3:=at0_lt (s.data.toList.drop i) 3;generalize at0 (s.data.toList.drop i) 0=b0 at *;generalize at0 (s.data.toList.drop i) 1=b1 at *;generalize at0 (s.data.toList.drop i) 2=b2 at *;generalize at0 (s.data.toList.drop i) 3=b3 at *;unfold seqN;by_cases a:b0<0x80
 ·rw [if_pos a];exact sq1 s hs i hi w b0 X0 (by omega) (by omega)
 rw [if_neg a];by_cases b:b0 / 32=6
 ·rw [if_pos b];have q1:=beqI_true (a:=(b0:Int) / 32) (b:=6) (by omega);by_cases c1:s.size≤i+1
  ·rw [if_neg (by omega)];exact sq2s1 s hs i hi w b0 X0 (by omega) (by omega) q1 c1
  by_cases c2:b1 / 64=2
  ·have r1:=bneI_false (a:=(b1:Int) / 64) (b:=2) (by omega);by_cases c3:b0 % 32*64+b1 % 64≥0x80
   ·rw [if_pos (by omega)];have ec:((b0 % 32*64+b1 % 64:Nat):Int)=((b0:Int) % 32)*64+(b1:Int) % 64:=by omega
    show Calls _ _ _ _ fun e w'=>e=.returned (.tuple #[.int .i64 ((b0 % 32*64+b1 % 64:Nat):Int),.int .i64 2])∧w'=w
    rw [ec];exact sq2o s hs i hi w b0 X0 (by omega) (by omega) q1 (by omega) b1 (X1 (by omega)) (by omega) (by omega) r1 (by omega)
   ·rw [if_neg (by omega)];exact sq2l s hs i hi w b0 X0 (by omega) (by omega) q1 (by omega) b1 (X1 (by omega)) (by omega) (by omega) r1 (by omega)
  ·rw [if_neg (by omega)];exact sq2b1 s hs i hi w b0 X0 (by omega) (by omega) q1 (by omega) b1 (X1 (by omega)) (by omega) (by omega) (bneI_true (by omega))
 rw [if_neg b];have q1:=beqI_false (a:=(b0:Int) / 32) (b:=6) (by omega);by_cases d:b0 / 16=14
 ·rw [if_pos d];have q2:=beqI_true (a:=(b0:Int) / 16) (b:=14) (by omega);by_cases c1:s.size≤i+1
  ·rw [if_neg (by omega)];exact sq3s1 s hs i hi w b0 X0 (by omega) (by omega) q1 q2 c1
  by_cases c2:b1 / 64=2
  ·have r1:=bneI_false (a:=(b1:Int) / 64) (b:=2) (by omega);by_cases c3:s.size≤i+2
   ·rw [if_neg (by omega)];exact sq3s2 s hs i hi w b0 X0 (by omega) (by omega) q1 q2 (by omega) b1 (X1 (by omega)) (by omega) (by omega) r1 c3
   by_cases c4:b2 / 64=2
   ·have r2:=bneI_false (a:=(b2:Int) / 64) (b:=2) (by omega);have ec:((b0 % 16*4096+b1 % 64*64+b2 % 64:Nat):Int)=(((b0:Int) % 16)*64+(b1:Int) % 64)*64+(b2:Int) % 64:=by omega
    by_cases c5:b0 % 16*4096+b1 % 64*64+b2 % 64≥0x800
    ·by_cases c6:55296≤b0 % 16*4096+b1 % 64*64+b2 % 64∧b0 % 16*4096+b1 % 64*64+b2 % 64≤57343
     ·rw [if_neg (fun h=>h.2.2.2.2.2 c6)];exact sq3m s hs i hi w b0 X0 (by omega) (by omega) q1 q2 (by omega) b1 (X1 (by omega)) (by omega) (by omega) r1 (by omega) b2 (X2 (by omega)) (by omega) (by omega) r2 (by omega) (by omega) (by omega)
     ·rw [if_pos ⟨by omega,c2,by omega,c4,c5,c6⟩];show Calls _ _ _ _ fun e w'=>e=.returned (.tuple #[.int .i64 ((b0 % 16*4096+b1 % 64*64+b2 % 64:Nat):Int),.int .i64 3])∧w'=w
      rw [ec];by_cases c7:b0 % 16*4096+b1 % 64*64+b2 % 64<55296
      ·exact sq3o s hs i hi w b0 X0 (by omega) (by omega) q1 q2 (by omega) b1 (X1 (by omega)) (by omega) (by omega) r1 (by omega) b2 (X2 (by omega)) (by omega) (by omega) r2 (by omega) (by omega)
      ·exact sq3p s hs i hi w b0 X0 (by omega) (by omega) q1 q2 (by omega) b1 (X1 (by omega)) (by omega) (by omega) r1 (by omega) b2 (X2 (by omega)) (by omega) (by omega) r2 (by omega) (by omega)
    ·rw [if_neg (fun h=>c5 h.2.2.2.2.1)];exact sq3l s hs i hi w b0 X0 (by omega) (by omega) q1 q2 (by omega) b1 (X1 (by omega)) (by omega) (by omega) r1 (by omega) b2 (X2 (by omega)) (by omega) (by omega) r2 (by omega)
   ·rw [if_neg (fun h=>c4 h.2.2.2.1)];exact sq3b2 s hs i hi w b0 X0 (by omega) (by omega) q1 q2 (by omega) b1 (X1 (by omega)) (by omega) (by omega) r1 (by omega) b2 (X2 (by omega)) (by omega) (by omega) (bneI_true (by omega))
  ·rw [if_neg (fun h=>c2 h.2.1)];exact sq3b1 s hs i hi w b0 X0 (by omega) (by omega) q1 q2 (by omega) b1 (X1 (by omega)) (by omega) (by omega) (bneI_true (by omega))
 rw [if_neg d];have q2:=beqI_false (a:=(b0:Int) / 16) (b:=14) (by omega);by_cases f:b0 / 8=30
 ·rw [if_pos f];have q3:=beqI_true (a:=(b0:Int) / 8) (b:=30) (by omega);by_cases c1:s.size≤i+1
  ·rw [if_neg (by omega)];exact sq4s1 s hs i hi w b0 X0 (by omega) (by omega) q1 q2 q3 c1
  by_cases c2:b1 / 64=2
  ·have r1:=bneI_false (a:=(b1:Int) / 64) (b:=2) (by omega);by_cases c3:s.size≤i+2
   ·rw [if_neg (by omega)];exact sq4s2 s hs i hi w b0 X0 (by omega) (by omega) q1 q2 q3 (by omega) b1 (X1 (by omega)) (by omega) (by omega) r1 c3
   by_cases c4:b2 / 64=2
   ·have r2:=bneI_false (a:=(b2:Int) / 64) (b:=2) (by omega);by_cases c5:s.size≤i+3
    ·rw [if_neg (by omega)];exact sq4s3 s hs i hi w b0 X0 (by omega) (by omega) q1 q2 q3 (by omega) b1 (X1 (by omega)) (by omega) (by omega) r1 (by omega) b2 (X2 (by omega)) (by omega) (by omega) r2 c5
    by_cases c6:b3 / 64=2
    ·have r3:=bneI_false (a:=(b3:Int) / 64) (b:=2) (by omega);have ec:((b0 % 8*262144+b1 % 64*4096+b2 % 64*64+b3 % 64:Nat):Int)=((((b0:Int) % 8)*64+(b1:Int) % 64)*64+(b2:Int) % 64)*64+(b3:Int) % 64:=by omega
     by_cases c7:b0 % 8*262144+b1 % 64*4096+b2 % 64*64+b3 % 64≥0x10000
     ·by_cases c8:b0 % 8*262144+b1 % 64*4096+b2 % 64*64+b3 % 64≤1114111
      ·rw [if_pos ⟨by omega,c2,by omega,c4,by omega,c6,c7,c8⟩];show Calls _ _ _ _ fun e w'=>e=.returned (.tuple #[.int .i64 ((b0 % 8*262144+b1 % 64*4096+b2 % 64*64+b3 % 64:Nat):Int),.int .i64 4])∧w'=w
       rw [ec];exact sq4o s hs i hi w b0 X0 (by omega) (by omega) q1 q2 q3 (by omega) b1 (X1 (by omega)) (by omega) (by omega) r1 (by omega) b2 (X2 (by omega)) (by omega) (by omega) r2 (by omega) b3 (X3 (by omega)) (by omega) (by omega) r3 (by omega) (by omega)
      ·rw [if_neg (fun h=>c8 h.2.2.2.2.2.2.2)];exact sq4m s hs i hi w b0 X0 (by omega) (by omega) q1 q2 q3 (by omega) b1 (X1 (by omega)) (by omega) (by omega) r1 (by omega) b2 (X2 (by omega)) (by omega) (by omega) r2 (by omega) b3 (X3 (by omega)) (by omega) (by omega) r3 (by omega)
     ·rw [if_neg (fun h=>c7 h.2.2.2.2.2.2.1)];exact sq4l s hs i hi w b0 X0 (by omega) (by omega) q1 q2 q3 (by omega) b1 (X1 (by omega)) (by omega) (by omega) r1 (by omega) b2 (X2 (by omega)) (by omega) (by omega) r2 (by omega) b3 (X3 (by omega)) (by omega) (by omega) r3 (by omega)
    ·rw [if_neg (fun h=>c6 h.2.2.2.2.2.1)];exact sq4b3 s hs i hi w b0 X0 (by omega) (by omega) q1 q2 q3 (by omega) b1 (X1 (by omega)) (by omega) (by omega) r1 (by omega) b2 (X2 (by omega)) (by omega) (by omega) r2 (by omega) b3 (X3 (by omega)) (by omega) (by omega) (bneI_true (by omega))
   ·rw [if_neg (fun h=>c4 h.2.2.2.1)];exact sq4b2 s hs i hi w b0 X0 (by omega) (by omega) q1 q2 q3 (by omega) b1 (X1 (by omega)) (by omega) (by omega) r1 (by omega) b2 (X2 (by omega)) (by omega) (by omega) (bneI_true (by omega))
  ·rw [if_neg (fun h=>c2 h.2.1)];exact sq4b1 s hs i hi w b0 X0 (by omega) (by omega) q1 q2 q3 (by omega) b1 (X1 (by omega)) (by omega) (by omega) (bneI_true (by omega))
 ·rw [if_neg f];exact sq0 s hs i hi w b0 X0 (by omega) (by omega) q1 q2 (beqI_false (by omega))
theorem refLet_any (r:Int) (h0:0≤r) (h1:r≤1114111) (w:World):Calls Tryz.prog 67 #[.int .i64 r] w fun e w'=>e=.returned (.bool (okRune r))∧w'=w:=by
 have hcase:(r≤8)∨(9≤r∧r≤9)∨(10≤r∧r≤10)∨(11≤r∧r≤31)∨(32≤r∧r≤126)∨(127≤r∧r≤159)∨(160≤r∧r≤64975)∨(64976≤r∧r≤65007)∨(65008≤r∧r≤65278)∨(65279≤r∧r≤65279)∨(65280≤r):=by omega
 rcases hcase with ha|⟨ha,hb⟩|⟨ha,hb⟩|⟨ha,hb⟩|⟨ha,hb⟩|⟨ha,hb⟩|⟨ha,hb⟩|⟨ha,hb⟩|⟨ha,hb⟩|⟨ha,hb⟩|ha
 ·have t1:(r==9)=false:=nB (by omega);have t2:(r==10)=false:=nB (by omega);have t3:(r==65279)=false:=nB (by omega);go_enter Tryz.func67,Tryz.ntmps67;go_wp2_with fail;go_ret;exact ⟨congrArg (fun b=>Ending.returned (.bool b)) (okRune_no (by omega)),rfl⟩
 ·have t1:(r==9)=true:=beq_iff_eq.2 (by omega);have t2:(r==10)=false:=nB (by omega);have t3:(r==65279)=false:=nB (by omega);go_enter Tryz.func67,Tryz.ntmps67;go_wp2_with fail;go_ret;exact ⟨congrArg (fun b=>Ending.returned (.bool b)) (by unfold okRune;rw [eq_comm,decide_eq_true_iff];omega),rfl⟩
 ·have t1:(r==9)=false:=nB (by omega);have t2:(r==10)=true:=beq_iff_eq.2 (by omega);have t3:(r==65279)=false:=nB (by omega);go_enter Tryz.func67,Tryz.ntmps67;go_wp2_with fail;go_ret;exact ⟨congrArg (fun b=>Ending.returned (.bool b)) (by unfold okRune;rw [eq_comm,decide_eq_true_iff];omega),rfl⟩
 ·have t1:(r==9)=false:=nB (by omega);have t2:(r==10)=false:=nB (by omega);have t3:(r==65279)=false:=nB (by omega);go_enter Tryz.func67,Tryz.ntmps67;go_wp2_with fail;go_ret;exact ⟨congrArg (fun b=>Ending.returned (.bool b)) (okRune_no (by omega)),rfl⟩
 ·have t1:(r==9)=false:=nB (by omega);have t2:(r==10)=false:=nB (by omega);have t3:(r==65279)=false:=nB (by omega);go_enter Tryz.func67,Tryz.ntmps67;go_wp2_with fail;go_ret;exact ⟨congrArg (fun b=>Ending.returned (.bool b)) (okRune_yes (by omega)),rfl⟩
 ·have t1:(r==9)=false:=nB (by omega);have t2:(r==10)=false:=nB (by omega);have t3:(r==65279)=false:=nB (by omega);go_enter Tryz.func67,Tryz.ntmps67;go_wp2_with fail;go_ret;exact ⟨congrArg (fun b=>Ending.returned (.bool b)) (okRune_no (by omega)),rfl⟩
 ·have t1:(r==9)=false:=nB (by omega);have t2:(r==10)=false:=nB (by omega);have t3:(r==65279)=false:=nB (by omega);go_enter Tryz.func67,Tryz.ntmps67;go_wp2_with fail;go_ret;exact ⟨congrArg (fun b=>Ending.returned (.bool b)) (okRune_yes (by omega)),rfl⟩
 ·have t1:(r==9)=false:=nB (by omega);have t2:(r==10)=false:=nB (by omega);have t3:(r==65279)=false:=nB (by omega);go_enter Tryz.func67,Tryz.ntmps67;go_wp2_with fail;go_ret;exact ⟨congrArg (fun b=>Ending.returned (.bool b)) (okRune_no (by omega)),rfl⟩
 ·have t1:(r==9)=false:=nB (by omega);have t2:(r==10)=false:=nB (by omega);have t3:(r==65279)=false:=nB (by omega);go_enter Tryz.func67,Tryz.ntmps67;go_wp2_with fail;go_ret;exact ⟨congrArg (fun b=>Ending.returned (.bool b)) (okRune_yes (by omega)),rfl⟩
 ·have t1:(r==9)=false:=nB (by omega);have t2:(r==10)=false:=nB (by omega);have t3:(r==65279)=true:=beq_iff_eq.2 (by omega);go_enter Tryz.func67,Tryz.ntmps67;go_wp2_with fail;go_ret;exact ⟨congrArg (fun b=>Ending.returned (.bool b)) (okRune_no (by omega)),rfl⟩
 ·have t1:(r==9)=false:=nB (by omega);have t2:(r==10)=false:=nB (by omega);have t3:(r==65279)=false:=nB (by omega);go_enter Tryz.func67,Tryz.ntmps67;go_wp2_with fail;go_ret;exact ⟨congrArg (fun b=>Ending.returned (.bool b)) (okRune_yes (by omega)),rfl⟩
end Go.Proofs.YtijpfbcippijoaaGreatDoor
