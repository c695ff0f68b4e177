import Derived.Test.YtijpfbcippijoaaGreatDoorAl
import Derived.Test.YtijpfbcippijoaaGreatDoorGr114
import Derived.Test.YtijpfbcippijoaaGreatDoorGr142
import Derived.Lib.Bytealg
import Derived.Deep.RegionWith
import Derived.Deep.DeepCutAuto
set_option maxHeartbeats 4000000
set_option maxRecDepth 100000
namespace Go.Proofs.YtijpfbcippijoaaGreatDoor
open Go.RowKit Go.Lib
structure Errs (w:World):Prop where
 syn:∃ T v,w.cell? ⟨3,0,none⟩=some (.iface T v)∧3<w.heap.size
 rng:∃ T v,w.cell? ⟨4,0,none⟩=some (.iface T v)∧4<w.heap.size
theorem Errs.below {w w':World} (h:Errs w) (hb:Below w.heap.size w w'):Errs w':=by
 obtain ⟨T,v,h1,h2⟩:=h.syn;obtain ⟨U,u,h3,h4⟩:=h.rng;exact ⟨⟨T,v,(hb.cell (p:=⟨3,0,none⟩) h2).trans h1,by have:=hb.size;omega⟩,⟨U,u,(hb.cell (p:=⟨4,0,none⟩) h4).trans h3,by have:=hb.size;omega⟩⟩
theorem syntaxError_any (fn s:ByteArray) (hs:s.size≤1099511627776) (w:World) (he:Errs w) :
  Calls Tryz.prog 151 #[.string fn,.string s] w fun e w'=>∃ a,e=.returned (.pointer (some a))∧Below w.heap.size w w':=by
 obtain ⟨T,v,h1,h2⟩:=he.syn;go_enter Tryz.func151,Tryz.ntmps151;go_wp2_with fail;go_region_with (go_at_call 102;refine (Tryz.clone_any s _ (by omega)).mono ?_;rintro e w1 ⟨rfl,hb1⟩;have hc1:w1.cell? ⟨3,0,none⟩=some (.iface T v):=(hb1.cell (p:=⟨3,0,none⟩) (by simpa using h2)).trans h1)
 all_goals
  have hd0:Below w.heap.size w w.drew:=⟨rfl,rfl,rfl,lR _,fun _ _=>rfl⟩;have hB1:Below w.heap.size w w1:=hd0.trans (hb1.mono (lR _));have hs1:=hB1.size;clear hb1;go_wp2_with fail;go_ret;exact ⟨_,rfl,hB1.alloc hs1 _⟩
theorem rangeError_any (fn s:ByteArray) (hs:s.size≤1099511627776) (w:World) (he:Errs w) :
  Calls Tryz.prog 152 #[.string fn,.string s] w fun e w'=>∃ a,e=.returned (.pointer (some a))∧Below w.heap.size w w':=by
 obtain ⟨T,v,h1,h2⟩:=he.rng;go_enter Tryz.func152,Tryz.ntmps152;go_wp2_with fail;go_region_with (go_at_call 102;refine (Tryz.clone_any s _ (by omega)).mono ?_;rintro e w1 ⟨rfl,hb1⟩;have hc1:w1.cell? ⟨4,0,none⟩=some (.iface T v):=(hb1.cell (p:=⟨4,0,none⟩) (by simpa using h2)).trans h1)
 all_goals
  have hd0:Below w.heap.size w w.drew:=⟨rfl,rfl,rfl,lR _,fun _ _=>rfl⟩;have hB1:Below w.heap.size w w1:=hd0.trans (hb1.mono (lR _));have hs1:=hB1.size;clear hb1;go_wp2_with fail;go_ret;exact ⟨_,rfl,hB1.alloc hs1 _⟩
theorem toError_any (fn s:ByteArray) (b c k:Int) (hk:k=1∨k=2) (hs:s.size≤1099511627776) (w:World) (he:Errs w) :
  Calls Tryz.prog 138 #[.string fn,.string s,.int .i64 b,.int .i64 c,.iface 197 (.int .i64 k)] w fun e w'=>∃ T v,e=.returned (.iface T v)∧Below w.heap.size w w':=by
 have q12:∀ w,(binOp .eql 129 (.iface 197 (.int .i64 1)) (.iface 197 (.int .i64 2))).run Tryz.prog w=.ok (.bool false) w:=fun w=>by kernel_rfl
 have q11:∀ w,(binOp .eql 129 (.iface 197 (.int .i64 1)) (.iface 197 (.int .i64 1))).run Tryz.prog w=.ok (.bool true) w:=fun w=>by kernel_rfl
 have q22:∀ w,(binOp .eql 129 (.iface 197 (.int .i64 2)) (.iface 197 (.int .i64 2))).run Tryz.prog w=.ok (.bool true) w:=fun w=>by kernel_rfl
 rcases hk with rfl|rfl
 ·go_enter Tryz.func138,Tryz.ntmps138;go_wp2_with fail;refine (rangeError_any fn s hs _ he).mono ?_;rintro e w1 ⟨a,rfl,hb1⟩;go_wp2_with fail;go_ret;exact ⟨_,_,rfl,hb1⟩
 ·go_enter Tryz.func138,Tryz.ntmps138;go_wp2_with fail;refine (syntaxError_any fn s hs _ he).mono ?_;rintro e w1 ⟨a,rfl,hb1⟩;go_wp2_with fail;go_ret;exact ⟨_,_,rfl,hb1⟩
theorem parse_8 (s:ByteArray) (hs:s.size≤1099511627776) (hne:0<s.size) (w:World) (he:Errs w) :
  Calls Tryz.prog 166 #[.string s,.int .i64 16,.int .i64 8] w fun e w'=>∃ x E,e=.returned (.tuple #[x,E])∧Below w.heap.size w w' ∧
   ((∃ v:Nat,pu 255 0 s.data.toList=some v∧x=.int .u64 v∧E=.nilIface)∨(pu 255 0 s.data.toList=none∧∃ y:Int,x=.int .u64 y∧∃ T v,E=.iface T v)):=by
 go_enter Tryz.func166,Tryz.ntmps166;go_wp2_with fail;refine (parseIn_8 s hs hne _).mono ?_;rintro e w1 ⟨x,E,rfl,hb1,⟨v,hp,rfl,rfl⟩|⟨hp,y,rfl,k,hk,rfl⟩⟩
 ·have HP:Hid (pu 255 0 s.data.toList=some v):=hp;clear hp;go_wp2_with fail;go_ret2;exact ⟨_,_,rfl,hb1,.inl ⟨v,HP.out,rfl,rfl⟩⟩
 ·have HP:Hid (pu 255 0 s.data.toList=none):=hp;have he1:=he.below hb1;clear hp;go_wp2_with fail;refine (toError_any _ s _ _ k hk hs _ he1).mono ?_;rintro e w2 ⟨T,v,rfl,hb2⟩;have hB2:=hb1.trans (hb2.mono hb1.size);clear hb1 hb2;go_wp2_with fail;go_ret2;exact ⟨_,_,rfl,hB2,.inr ⟨HP.out,y,rfl,T,v,rfl⟩⟩
theorem parse_31 (s:ByteArray) (hs:s.size≤1099511627776) (hne:0<s.size) (w:World) (he:Errs w) :
  Calls Tryz.prog 166 #[.string s,.int .i64 16,.int .i64 31] w fun e w'=>∃ x E,e=.returned (.tuple #[x,E])∧Below w.heap.size w w' ∧
   ((∃ v:Nat,pu 2147483647 0 s.data.toList=some v∧x=.int .u64 v∧E=.nilIface)∨(pu 2147483647 0 s.data.toList=none∧∃ y:Int,x=.int .u64 y∧∃ T v,E=.iface T v)):=by
 go_enter Tryz.func166,Tryz.ntmps166;go_wp2_with fail;refine (parseIn_31 s hs hne _).mono ?_;rintro e w1 ⟨x,E,rfl,hb1,⟨v,hp,rfl,rfl⟩|⟨hp,y,rfl,k,hk,rfl⟩⟩
 ·have HP:Hid (pu 2147483647 0 s.data.toList=some v):=hp;clear hp;go_wp2_with fail;go_ret2;exact ⟨_,_,rfl,hb1,.inl ⟨v,HP.out,rfl,rfl⟩⟩
 ·have HP:Hid (pu 2147483647 0 s.data.toList=none):=hp;have he1:=he.below hb1;clear hp;go_wp2_with fail;refine (toError_any _ s _ _ k hk hs _ he1).mono ?_;rintro e w2 ⟨T,v,rfl,hb2⟩;have hB2:=hb1.trans (hb2.mono hb1.size);clear hb1 hb2;go_wp2_with fail;go_ret2;exact ⟨_,_,rfl,hB2,.inr ⟨HP.out,y,rfl,T,v,rfl⟩⟩
theorem indexIn_any (s:ByteArray) (w:World):Calls Tryz.prog 146 #[.string s,.int .u8 125] w fun e w'=>e=.returned (.int .i64 (Lib.indexByte s.data.toList 125))∧w'=w:=by
 go_enter Tryz.func146,Tryz.ntmps146;go_wp2;rw [run_callFunc_extern Tryz.func162 (by kernel_rfl) (by kernel_rfl) (by kernel_rfl) (e:=Extern.BytealgIndexByte.indexByte) (by kernel_rfl),Lib.run_indexByteString];simp only [Result.andThen];rw [Oper.upon_value];go_wp2;go_ret;exact ⟨rfl,rfl⟩
theorem indexByte_any (s:ByteArray) (w:World):Calls Tryz.prog 167 #[.string s,.int .u8 125] w fun e w'=>e=.returned (.int .i64 (Lib.indexByte s.data.toList 125))∧w'=w:=by
 go_enter Tryz.func167,Tryz.ntmps167;go_wp2_with fail;refine (indexIn_any s _).mono ?_;rintro e w1 ⟨rfl,rfl⟩;go_wp2_with fail;go_ret;exact ⟨rfl,rfl⟩
def okV (r:Int):Bool:=decide (r<55296∨(57343<r∧r≤1114111))
theorem validRune_any (r:Int) (h0:0≤r) (w:World):Calls Tryz.prog 168 #[.int .i32 r] w fun e w'=>e=.returned (.bool (okV r))∧w'=w:=by
 by_cases h1:r<55296
 ·have HV:Hid (okV r=true):=decide_eq_true (.inl h1);go_enter Tryz.func168,Tryz.ntmps168;go_wp2_with fail;go_ret;rw [HV.out];exact ⟨rfl,rfl⟩
 by_cases h2:57343<r
 ·by_cases h3:r≤1114111
  ·have HV:Hid (okV r=true):=decide_eq_true (.inr ⟨h2,h3⟩);go_enter Tryz.func168,Tryz.ntmps168;go_wp2_with fail;go_ret;rw [HV.out];exact ⟨rfl,rfl⟩
  ·have HV:Hid (okV r=false):=decide_eq_false (by omega);go_enter Tryz.func168,Tryz.ntmps168;go_wp2_with fail;go_ret;rw [HV.out];exact ⟨rfl,rfl⟩
 ·have HV:Hid (okV r=false):=decide_eq_false (by omega);go_enter Tryz.func168,Tryz.ntmps168;go_wp2_with fail;go_ret;rw [HV.out];exact ⟨rfl,rfl⟩
theorem ext_list (s:ByteArray) (i j:Nat):(s.extract i j).data.toList=(s.data.toList.take j).drop i:=by
 rw [ByteArray.data_extract,Array.toList_extract];simp [List.extract,List.drop_take]
theorem pu_le {mx:Nat}:∀ {l:List UInt8} {n v:Nat},pu mx n l=some v→n≤mx→v≤mx
 | [],n,v,h,hn=>by
  simp [pu] at h;omega
 | c::t,n,v,h,hn=>by
  rw [pu] at h;split at h
  ·simp at h
  ·split at h
   ·rename_i h2
    exact pu_le h h2
   ·simp at h
def byteL2 (l:List UInt8):List UInt8×Nat :=
 if l.length<4 then ([],0) else match pu 255 0 ((l.take 4).drop 2) with
  | some v=>([UInt8.ofNat v],4)
  | none=>([],0)
theorem readByte_any (s:ByteArray) (hs:s.size≤1099511627776) (w:World) (he:Errs w) :
  Calls Tryz.prog 155 #[.string s] w fun e w'=>e=.returned (.tuple #[.string ⟨(byteL2 s.data.toList).1.toArray⟩,.int .i64 (byteL2 s.data.toList).2])∧Below w.heap.size w w':=by
 have HSZ:Hid (s.size=s.data.toList.length):=size_data s;by_cases h4:s.size<4
 ·have HB:Hid (byteL2 s.data.toList=([],0)):=by
   show _=_;unfold byteL2;rw [if_pos (by rw [← HSZ.out];exact h4)]
  rw [HB.out];go_enter Tryz.func155,Tryz.ntmps155;go_wp2_with fail;go_ret2;exact ⟨rfl,bE _ _⟩
 ·have hz:(s.extract 2 4).size=2:=by rw [ByteArray.size_extract];omega
  have HX:Hid ((s.extract 2 4).data.toList=(s.data.toList.take 4).drop 2):=ext_list s 2 4;have hz1:(s.extract 2 4).size≤1099511627776:=by omega
  have hz2:0<(s.extract 2 4).size:=by omega
  clear hz;go_enter Tryz.func155,Tryz.ntmps155;go_wp2_with fail;refine (parse_8 _ hz1 hz2 _ he).mono ?_;rintro e w1 ⟨x,E,rfl,hb1,⟨v,hp,rfl,rfl⟩|⟨hp,y,rfl,T,v,rfl⟩⟩
  ·rw [HX.out] at hp;have hv:v≤255:=pu_le hp (by decide);have HB:Hid (byteL2 s.data.toList=([UInt8.ofNat v],4)):=by
    show _=_;unfold byteL2;rw [if_neg (by rw [← HSZ.out];exact h4),hp]
   clear hp
   have hcv:∀ T,(convert 85 9 (.slice (some ⟨w1.heap.size,0,none⟩) 1 1)).run Tryz.prog (w1.alloc (.cells #[.int .u8 (v:Int)] T))=_:=fun T=>conv_arr (l:=[UInt8.ofNat v]) (alloc_new w1 _) (by
    have e:(UInt8.ofNat v).toNat=v:=ofNat_toNat v (by omega)
    simp [Lib.byteCells,e]) rfl
   have hs1:=hb1.size;go_wp2_with fail;go_ret2;rw [HB.out];exact ⟨rfl,hb1.alloc hs1 _⟩
  ·rw [HX.out] at hp;have HB:Hid (byteL2 s.data.toList=([],0)):=by
    show _=_;unfold byteL2;rw [if_neg (by rw [← HSZ.out];exact h4),hp]
   clear hp;go_wp2_with fail;go_ret2;rw [HB.out];exact ⟨rfl,hb1⟩
theorem pre_u (s:ByteArray):pre s ⟨#[92,117,123]⟩=(s.data.toList.take 3==[92,117,123]):=by
 have e3:(⟨#[92,117,123]⟩:ByteArray).size=3:=rfl;have e6:(⟨#[92,117,123]⟩:ByteArray).toList=[92,117,123]:=by rw [Go.ByteArray.toList_eq]
 have e7:(s.extract 0 3).toList=s.data.toList.take 3:=by
  rw [Go.ByteArray.toList_eq,extract_list];rfl
 have e8:s.size=s.data.toList.length:=size_data s;unfold pre;rw [e3,e6,e7,e8];split
 ·rfl
 ·rw [eq_comm,beq_eq_false_iff_ne];intro e;have:=congrArg List.length e;simp at this;simp at *;omega
def runeL2 (l:List UInt8):List UInt8×Nat :=
 if Lib.indexByte l 125<0 then ([],0) else if (l.take 3==[92,117,123])=false then ([],0) else if Lib.indexByte l 125=3 then ([],0) else
 match pu 2147483647 0 ((l.take (Lib.indexByte l 125).toNat).drop 3) with
  | none=>([],0)
  | some v=>if okV v=true then (encB v,(Lib.indexByte l 125).toNat+1) else ([],0)
theorem index_lt (l:List UInt8) (c:UInt8):Lib.indexByte l c<l.length∨Lib.indexByte l c=-1:=by
 induction l with
 | nil=>right;rfl
 | cons b l ih =>
  rw [Lib.indexByte];split
  ·left;simp
  ·split
   ·right;rfl
   ·rename_i h2
    have:Lib.indexByte l c≠-1:=by simpa using h2
    left;rcases ih with h|h
    ·simp;omega
    ·exact absurd h this
theorem index_prefix (l:List UInt8) (h:l.take 3=[92,117,123]):3≤Lib.indexByte l 125∨Lib.indexByte l 125=-1:=by
 obtain ⟨rest,rfl⟩:=take_of_cons3 h;have h1:=Lib.indexByte_ge rest 125;have e:Lib.indexByte (92::117::123::rest) 125=if Lib.indexByte rest 125==-1 then -1 else Lib.indexByte rest 125+1+1+1:=by
  simp only [Lib.indexByte,show ((92:UInt8)==125)=false from rfl,show ((117:UInt8)==125)=false from rfl,show ((123:UInt8)==125)=false from rfl];by_cases h2:Lib.indexByte rest 125=-1
  ·rw [h2];rfl
  ·have t1:(Lib.indexByte rest 125==-1)=false:=nB h2;have t2:(Lib.indexByte rest 125+1==-1)=false:=nB (by omega);have t3:(Lib.indexByte rest 125+1+1==-1)=false:=nB (by omega);simp [t1,t2,t3]
 rw [e];split
 ·right;rfl
 ·rename_i h2
  have:Lib.indexByte rest 125≠-1:=by simpa using h2
  left;omega
theorem size_zero (s:ByteArray) (h:s.size=0):(s.toList==[])=true:=by
 have h2:s.toList=s.data.toList:=ByteArray.toList_eq _;have h3:=size_data s;rw [h] at h3;have h4:s.data.toList=[]:=List.length_eq_zero_iff.1 h3.symm;rw [h2,h4];rfl
theorem parse_none (s:ByteArray) (hz:s.size=0) (w:World) (he:Errs w) :
  Calls Tryz.prog 166 #[.string s,.int .i64 16,.int .i64 31] w fun e w'=>∃ T v,e=.returned (.tuple #[.int .u64 0,.iface T v])∧Below w.heap.size w w':=by
 have ht:=size_zero s hz;have hin:∀ w,Calls Tryz.prog 164 #[.string s,.int .i64 16,.int .i64 31] w fun e w'=>e=.returned (.tuple #[.int .u64 0,.iface 197 (.int .i64 2)])∧w'=w:=by
  intro w;go_enter Tryz.func164,Tryz.ntmps164;go_wp2_with fail;go_ret2;exact ⟨rfl,rfl⟩
 have HIN:Hid (∀ w,Calls Tryz.prog 164 #[.string s,.int .i64 16,.int .i64 31] w fun e w'=>e=.returned (.tuple #[.int .u64 0,.iface 197 (.int .i64 2)])∧w'=w):=hin;clear hin;have hs:s.size≤1099511627776:=by omega
 clear hz;go_enter Tryz.func166,Tryz.ntmps166;go_wp2_with fail;refine (HIN.out _).mono ?_;rintro e w1 ⟨rfl,rfl⟩;go_wp2_with fail;refine (toError_any _ s _ _ 2 (.inr rfl) hs _ he).mono ?_;rintro e w2 ⟨T,v,rfl,hb2⟩;go_wp2_with fail;go_ret2;exact ⟨T,v,rfl,hb2⟩
theorem readRune_any (s:ByteArray) (hs:s.size≤1099511627776) (w:World) (he:Errs w) :
  Calls Tryz.prog 156 #[.string s] w fun e w'=>e=.returned (.tuple #[.string ⟨(runeL2 s.data.toList).1.toArray⟩,.int .i64 (runeL2 s.data.toList).2])∧Below w.heap.size w w':=by
 have HSZ:Hid (s.size=s.data.toList.length):=size_data s;have HP:Hid (pre s ⟨#[92,117,123]⟩=(s.data.toList.take 3==[92,117,123])):=pre_u s;have hil:=index_lt s.data.toList 125;rw [← HSZ.out] at hil;by_cases h0:Lib.indexByte s.data.toList 125<0
 ·have HB:Hid (runeL2 s.data.toList=([],0)):=by
   show _=_;unfold runeL2;rw [if_pos h0]
  obtain ⟨ix,hix⟩:∃ ix,Lib.indexByte s.data.toList 125=ix:=⟨_,rfl⟩;have HI:Hid (Lib.indexByte s.data.toList 125=ix):=hix;rw [hix] at h0;clear hix hil;go_enter Tryz.func156,Tryz.ntmps156;go_wp2_with fail;refine (indexByte_any s _).mono ?_;rintro e w1 ⟨rfl,rfl⟩;rw [HI.out];go_wp2_with fail;go_ret2;rw [HB.out];exact ⟨rfl,bE _ _⟩
 ·cases h1:(s.data.toList.take 3==[92,117,123]) with
  | false =>
   have HB:Hid (runeL2 s.data.toList=([],0)):=by
    show _=_;unfold runeL2;rw [if_neg h0,if_pos h1]
   rw [h1] at HP;obtain ⟨ix,hix⟩:∃ ix,Lib.indexByte s.data.toList 125=ix:=⟨_,rfl⟩;have HI:Hid (Lib.indexByte s.data.toList 125=ix):=hix;rw [hix] at h0;clear hix hil h1;go_enter Tryz.func156,Tryz.ntmps156;go_wp2_with fail;refine (indexByte_any s _).mono ?_;rintro e w1 ⟨rfl,rfl⟩;rw [HI.out];go_wp2_with fail;refine (hasPrefix_any _ _ _).mono ?_;rintro e w1 ⟨rfl,rfl⟩;rw [HP.out];go_wp2_with fail;go_ret2;rw [HB.out];exact ⟨rfl,bE _ _⟩
  | true =>
   have h3:=index_prefix _ (by simpa using h1);obtain ⟨ix,hix⟩:∃ ix:Nat,Lib.indexByte s.data.toList 125=ix:=Int.eq_ofNat_of_zero_le (by omega);have HI:Hid (Lib.indexByte s.data.toList 125=(ix:Int)):=hix;have hx3:3≤ix:=by omega
   have hxs:ix<s.size:=by omega
   rw [h1] at HP;by_cases h33:ix=3
   ·subst h33;have HB:Hid (runeL2 s.data.toList=([],0)):=by
     show _=_;unfold runeL2;rw [if_neg h0,if_neg (by rw [h1];decide),if_pos (by rw [hix];rfl)]
    clear hix hil h1 h3 h0;go_enter Tryz.func156,Tryz.ntmps156;go_wp2_with fail;refine (indexByte_any s _).mono ?_;rintro e w1 ⟨rfl,rfl⟩;rw [HI.out];go_wp2_with fail;refine (hasPrefix_any _ _ _).mono ?_;rintro e w1 ⟨rfl,rfl⟩;rw [HP.out];go_wp2_with fail;refine (parse_none _ rfl _ he).mono ?_;rintro e w2 ⟨T,v,rfl,hb1⟩;go_wp2_with fail;go_ret2;rw [HB.out];exact ⟨rfl,hb1⟩
   ·have hz:(s.extract 3 ix).size=ix-3:=by rw [ByteArray.size_extract];omega
    have HX:Hid ((s.extract 3 ix).data.toList=(s.data.toList.take ix).drop 3):=ext_list s 3 ix;have hz1:(s.extract 3 ix).size≤1099511627776:=by omega
    have hz2:0<(s.extract 3 ix).size:=by omega
    clear hz
    have HR:Hid (runeL2 s.data.toList=match pu 2147483647 0 ((s.data.toList.take ix).drop 3) with
      | none=>([],0)
      | some v=>if okV v=true then (encB v,ix+1) else ([],0)):=by
     show _=_;unfold runeL2;rw [if_neg h0,if_neg (by rw [h1];decide),if_neg (by omega),hix];rfl
    clear hix hil h1 h3 h0;go_enter Tryz.func156,Tryz.ntmps156;go_wp2_with fail;refine (indexByte_any s _).mono ?_;rintro e w1 ⟨rfl,rfl⟩;rw [HI.out];go_wp2_with fail;refine (hasPrefix_any _ _ _).mono ?_;rintro e w1 ⟨rfl,rfl⟩;rw [HP.out];go_wp2_with fail;refine (parse_31 _ hz1 hz2 _ he).mono ?_;rintro e w2 ⟨x,E,rfl,hb1,⟨v,hp,rfl,rfl⟩|⟨hp,y,rfl,T,v,rfl⟩⟩
    ·rw [HX.out] at hp;have hv:v≤2147483647:=pu_le hp (by decide);have HB:=HR.out;rw [hp] at HB;simp only at HB;clear hp HR;cases hok:okV (v:Int) with
     | true =>
      rw [if_pos hok] at HB;have hE:=encode_list v;obtain ⟨bs,hbs⟩:∃ bs,encB (v:Int)=bs:=⟨_,rfl⟩;rw [hbs] at HB hE;have HB2:Hid (runeL2 s.data.toList=(bs,ix+1)):=HB;clear HB hbs;have HK:Hid (okV (v:Int)=true):=hok;have HE:Hid (Utf8.encode (v:Int)=⟨bs.toArray⟩):=hE;clear hok hE;go_wp2_with (go_at_call 168;refine (validRune_any _ (by omega) _).mono ?_;rintro e w3 ⟨rfl,rfl⟩;rw [HK.out]);go_ret2;rw [HB2.out];rw [HE.out];exact ⟨rfl,hb1⟩
     | false =>
      rw [if_neg (by rw [hok];decide)] at HB;have HB2:Hid (runeL2 s.data.toList=([],0)):=HB;clear HB;have HK:Hid (okV (v:Int)=false):=hok;clear hok;go_wp2_with (go_at_call 168;refine (validRune_any _ (by omega) _).mono ?_;rintro e w3 ⟨rfl,rfl⟩;rw [HK.out]);go_ret2;rw [HB2.out];exact ⟨rfl,hb1⟩
    ·rw [HX.out] at hp;have HB:=HR.out;rw [hp] at HB;have HB2:Hid (runeL2 s.data.toList=([],0)):=HB;clear hp HR HB;go_wp2_with fail;go_ret2;rw [HB2.out];exact ⟨rfl,hb1⟩
theorem byteAt1 (s:ByteArray) (h:1<s.size):∀ h',(s[1]'h').toNat=at0 s.data.toList 1:=by
 intro h';have h2:1<s.data.size:=h;have e:s[1]'h'=s.data[1]'h2:=rfl;rw [e];unfold at0;rw [List.getD_eq_getElem?_getD,Array.getElem?_toList,Array.getElem?_eq_getElem h2];rfl
theorem ext12 (s:ByteArray) (h:1<s.size):s.extract 1 2=⟨[UInt8.ofNat (at0 s.data.toList 1)].toArray⟩:=by
 have h2:(s.extract 1 2).data.toList=[UInt8.ofNat (at0 s.data.toList 1)]:=by
  rw [ext_list];have h3:1<s.data.toList.length:=by rw [← size_data];exact h
  match hl:s.data.toList,h3 with
  | a::b::t,_ =>
   show [b]=[UInt8.ofNat b.toNat];simp
 apply ByteArray.ext;apply Array.toList_inj.1;rw [h2]
theorem encB_most (r:Int):(encB r).length≤4:=by
 rw [encB_is,← size_data];exact encode_size_le _
def escL (l:List UInt8):List UInt8×Nat :=
 if l.length<2 then ([],0) else if at0 l 1=34 then ([34],2) else if at0 l 1=92 then ([92],2) else if at0 l 1=110 then ([10],2) else if at0 l 1=116 then ([9],2)
 else if at0 l 1=120 then byteL2 l else if at0 l 1=117 then runeL2 l else ([],0)
theorem byteL2_len (l:List UInt8):(byteL2 l).1.length≤4∧(byteL2 l).2≤l.length:=by
 unfold byteL2;split
 ·simp
 ·split<;>simp<;>omega
theorem runeL2_len (l:List UInt8):(runeL2 l).1.length≤4∧(runeL2 l).2≤l.length:=by
 unfold runeL2;split
 ·simp
 ·rename_i h0
  split
  ·simp
  ·split
   ·simp
   ·split
    ·simp
    ·split
     ·rename_i v _ _
      have h1:=index_lt l 125;have hb:=encB_most (v:Int);generalize encB (v:Int)=bs at *;exact ⟨hb,by simp;omega⟩
     ·simp
theorem escL_len (l:List UInt8):(escL l).1.length≤4∧(escL l).2≤l.length:=by
 unfold escL;split
 ·simp
 ·split
  ·simp;omega
  ·split
   ·simp;omega
   ·split
    ·simp;omega
    ·split
     ·simp;omega
     ·split
      ·exact byteL2_len l
      ·split
       ·exact runeL2_len l
       ·simp
theorem readEscape_any (s:ByteArray) (hs:s.size≤1099511627776) (w:World) (he:Errs w) :
  Calls Tryz.prog 139 #[.string s] w fun e w'=>e=.returned (.tuple #[.string ⟨(escL s.data.toList).1.toArray⟩,.int .i64 (escL s.data.toList).2])∧Below w.heap.size w w':=by
 have HSZ:Hid (s.size=s.data.toList.length):=size_data s;by_cases h2:s.size<2
 ·have HB:Hid (escL s.data.toList=([],0)):=by
   show _=_;unfold escL;rw [if_pos (by rw [← HSZ.out];exact h2)]
  go_enter Tryz.func139,Tryz.ntmps139;go_wp2_with fail;go_ret2;rw [HB.out];exact ⟨rfl,bE _ _⟩
 have hby:=byteAt1 s (by omega);have hx12:=ext12 s (by omega)
 have hu:escL s.data.toList=if at0 s.data.toList 1=34 then ([34],2) else if at0 s.data.toList 1=92 then ([92],2) else if at0 s.data.toList 1=110 then ([10],2) else if at0 s.data.toList 1=116 then ([9],2)
   else if at0 s.data.toList 1=120 then byteL2 s.data.toList else if at0 s.data.toList 1=117 then runeL2 s.data.toList else ([],0):=by
  show escL _=_;unfold escL;rw [if_neg (by rw [← HSZ.out];exact h2)]
 have hb0:=at0_lt s.data.toList 1;obtain ⟨c,hc⟩:∃ c,at0 s.data.toList 1=c:=⟨_,rfl⟩;rw [hc] at hby hx12 hu hb0;clear hc;by_cases k1:c=34
 ·subst k1;have HB:Hid (escL s.data.toList=([34],2)):=hu;clear hu;go_enter Tryz.func139,Tryz.ntmps139;go_wp2_with fail;go_ret2;rw [HB.out];exact ⟨rfl,bE _ _⟩
 have t1:((c:Int)==34)=false:=nB (by omega);rw [if_neg k1] at hu;by_cases k2:c=92
 ·subst k2;have HB:Hid (escL s.data.toList=([92],2)):=hu;clear hu;go_enter Tryz.func139,Tryz.ntmps139;go_wp2_with fail;go_ret2;rw [HB.out];exact ⟨rfl,bE _ _⟩
 have t2:((c:Int)==92)=false:=nB (by omega);rw [if_neg k2] at hu;by_cases k3:c=110
 ·subst k3;have HB:Hid (escL s.data.toList=([10],2)):=hu;clear hu;go_enter Tryz.func139,Tryz.ntmps139;go_wp2_with fail;go_ret2;rw [HB.out];exact ⟨rfl,bE _ _⟩
 have t3:((c:Int)==110)=false:=nB (by omega);rw [if_neg k3] at hu;by_cases k4:c=116
 ·subst k4;have HB:Hid (escL s.data.toList=([9],2)):=hu;clear hu;go_enter Tryz.func139,Tryz.ntmps139;go_wp2_with fail;go_ret2;rw [HB.out];exact ⟨rfl,bE _ _⟩
 have t4:((c:Int)==116)=false:=nB (by omega);rw [if_neg k4] at hu;by_cases k5:c=120
 ·subst k5;have HB:Hid (escL s.data.toList=byteL2 s.data.toList):=hu;clear hu;go_enter Tryz.func139,Tryz.ntmps139;go_wp2_with fail;refine (readByte_any s hs _ he).mono ?_;rintro e w1 ⟨rfl,hb1⟩;go_wp2_with fail;go_ret2;rw [HB.out];exact ⟨rfl,hb1⟩
 have t5:((c:Int)==120)=false:=nB (by omega);rw [if_neg k5] at hu;by_cases k6:c=117
 ·subst k6;have HB:Hid (escL s.data.toList=runeL2 s.data.toList):=hu;clear hu;go_enter Tryz.func139,Tryz.ntmps139;go_wp2_with fail;refine (readRune_any s hs _ he).mono ?_;rintro e w1 ⟨rfl,hb1⟩;go_wp2_with fail;go_ret2;rw [HB.out];exact ⟨rfl,hb1⟩
 have t6:((c:Int)==117)=false:=nB (by omega);rw [if_neg k6] at hu;have HB:Hid (escL s.data.toList=([],0)):=hu;clear hu;go_enter Tryz.func139,Tryz.ntmps139;go_wp2_with fail;go_ret2;rw [HB.out];exact ⟨rfl,bE _ _⟩
def rdL:Nat→List UInt8→List UInt8→Nat→Option (List UInt8×Nat)
 | 0,_,_,_=>none
 | f+1,acc,l,n=>if l=[] then none else if at0 l 0=34 then some (acc,n+1)
  else if at0 l 0=92 then (if (escL l).2=0 then none else rdL f (acc++(escL l).1) (l.drop (escL l).2) (n+(escL l).2))
  else rdL f (acc++[UInt8.ofNat (at0 l 0)]) (l.drop 1) (n+1)
def readL (l:List UInt8):Option (List UInt8×Nat):=if l.take 1=[34] then rdL l.length [] (l.drop 1) 1 else none
theorem rdL_end (f:Nat) (acc:List UInt8) (n:Nat):rdL f acc [] n=none:=by
 cases f
 ·rfl
 ·rw [rdL,if_pos rfl]
theorem pre_q (s:ByteArray):pre s ⟨#[34]⟩=decide (s.data.toList.take 1=[34]):=by
 have e3:(⟨#[34]⟩:ByteArray).size=1:=rfl;have e6:(⟨#[34]⟩:ByteArray).toList=[34]:=by rw [Go.ByteArray.toList_eq]
 have e7:(s.extract 0 1).toList=s.data.toList.take 1:=by
  rw [Go.ByteArray.toList_eq,extract_list];rfl
 have e8:s.size=s.data.toList.length:=size_data s;unfold pre;rw [e3,e6,e7,e8];split
 ·exact Bool.eq_iff_iff.2 (by simp)
 ·rename_i h
  rw [eq_comm,decide_eq_false_iff_not];intro e;have:=congrArg List.length e;rw [List.length_take,List.length_singleton] at this;omega
theorem readQuoted_any (s:ByteArray) (hs:s.size≤1099511627776) (w:World) (he:Errs w) :
  Calls Tryz.prog 130 #[.string s] w fun e w'=>Below w.heap.size w w' ∧
   ((∃ x n,readL s.data.toList=some (x,n)∧n≤s.size∧x.length≤4*s.size∧e=.returned (.tuple #[.string ⟨x.toArray⟩,.int .i64 (n:Nat),.bool true])) ∨
    (readL s.data.toList=none∧e=.returned (.tuple #[.string ⟨#[]⟩,.int .i64 0,.bool false]))):=by
 have HSZ:Hid (s.size=s.data.toList.length):=size_data s;have HP:Hid (pre s ⟨#[34]⟩=decide (s.data.toList.take 1=[34])):=pre_q s;by_cases hq:s.data.toList.take 1=[34]
 ·rw [decide_eq_true hq] at HP;have HR:Hid (readL s.data.toList=rdL s.data.toList.length [] (s.data.toList.drop 1) 1):=by
   show _=_;unfold readL;rw [if_pos hq]
  have h1s:1≤s.size:=by
   rw [HSZ.out];have:=congrArg List.length hq;rw [List.length_take,List.length_singleton] at this;omega
  clear hq;go_enter Tryz.func130,Tryz.ntmps130;go_wp2_with fail;refine (hasPrefix_any _ _ _).mono ?_;rintro e w1 ⟨rfl,rfl⟩;rw [HP.out];go_wp2_with fail;have hI0:Lib.IsBuilderF 87 5 w1.heap.size w1.heap.size (Lib.byteCells []) _:=Lib.IsBuilderF.of (Lib.fresh_isBuilder 87 5 w1);go_loopw [6,7,8] (fun i _ _ wr=>∃ (pos f:Nat) (acc:List UInt8),i=.int .i64 pos∧Lib.IsBuilderF 87 5 w1.heap.size w1.heap.size (Lib.byteCells acc) wr∧Below w1.heap.size w1 wr∧w1.heap.size<wr.heap.size∧pos≤s.size∧s.size≤pos+f∧acc.length≤4*pos∧Hid (rdL f acc (s.data.toList.drop pos) pos=readL s.data.toList)) (fun i _ _ _=>s.size-(RowKit.intOf i).toNat)
  case atStart=>exact ⟨1,s.size,[],rfl,hI0,(bE _ _).alloc (lR _) _,by simp,h1s,by omega,by simp,by rw [HR.out,← HSZ.out];rfl⟩
  case round =>
   clear hI0;obtain ⟨pos,f,acc,rfl,hI,hb,hlt,hps,hpf,hal,HA⟩:=hrel;have her:=he.below hb;have hbs:=hb.size;by_cases hp:pos<s.size
   ·obtain ⟨f,rfl⟩:∃ f',f=f'+1:=⟨f-1,by omega⟩;have hne:s.data.toList.drop pos≠[]:=by
     intro e;have:=congrArg List.length e;rw [List.length_drop,← size_data] at this;simp at this;omega
    have hA2:=HA.out;rw [rdL,if_neg hne] at hA2;have hby:∀ h,(s[pos]'h).toNat=at0 (s.data.toList.drop pos) 0:=byteAt0 s pos;have hb0:=at0_lt (s.data.toList.drop pos) 0;have HX:Hid ((s.extract pos s.size).data.toList=s.data.toList.drop pos):=extract_rest s pos;have hxs:(s.extract pos s.size).size≤1099511627776:=by rw [ByteArray.size_extract];omega
    have hel:=escL_len (s.data.toList.drop pos);rw [List.length_drop,← HSZ.out,List.drop_drop,List.drop_drop] at *;obtain ⟨c,hc⟩:∃ c,at0 (s.data.toList.drop pos) 0=c:=⟨_,rfl⟩;rw [hc] at hA2 hby hb0;clear hc hne HA;have hac:(Lib.byteCells acc).length≤4*pos:=by rw [Lib.byteCells_length];exact hal
    by_cases k1:c=34
    ·subst k1;rw [if_pos rfl] at hA2;have HA:Hid (readL s.data.toList=some (acc,pos+1)):=hA2.symm;clear hA2;go_wp2_with fail;refine (Tryz.Builder_String_any_k w1.heap.size w1.heap.size acc _ hI (by omega)).mono ?_;rintro e w3 ⟨rfl,_,b3,_⟩;have hb3:=hb.trans b3;clear b3 hI;go_wp2_with fail;go_ret3;exact ⟨hb3,.inl ⟨acc,pos+1,HA.out,by omega,by omega,rfl⟩⟩
    ·rw [if_neg k1] at hA2;have t1:((c:Int)==34)=false:=nB (by omega);by_cases k2:c=92
     ·subst k2;rw [if_pos rfl] at hA2;clear t1;have HEX:Hid (escL (s.extract pos s.size).data.toList=escL (s.data.toList.drop pos)):=by show _=_;rw [HX.out]
      obtain ⟨⟨ep,ew⟩,hee⟩:∃ d,escL (s.data.toList.drop pos)=d:=⟨_,rfl⟩;rw [hee] at hA2 hel HEX;simp only at hA2 hel;clear hee;by_cases hw0:ew=0
      ·subst hw0;rw [if_pos rfl] at hA2;have HA:Hid (readL s.data.toList=none):=hA2.symm;clear hA2;go_wp2_with fail;refine (readEscape_any _ hxs _ her).mono ?_;rintro e w3 ⟨rfl,hb3⟩;rw [HEX.out];have hB3:=hb.trans (hb3.mono hb.size);go_wp2_with fail;go_ret3;exact ⟨hB3,.inr ⟨HA.out,rfl⟩⟩
      ·rw [if_neg hw0] at hA2;have HA:Hid (rdL f (acc++ep) (List.drop (pos+ew) s.data.toList) (pos+ew)=readL s.data.toList):=hA2;clear hA2;have t0:((ew:Int)==0)=false:=nB (by omega);go_wp2_with fail;refine (readEscape_any _ hxs _ her).mono ?_;rintro e w3 ⟨rfl,hb3⟩;rw [HEX.out];have hI3:=builder_keep hI hb3;have hB3:=hb.trans (hb3.mono hb.size);have hs3:=hb3.size;clear hb3 hI hb;go_wp2_with fail;refine (writeString_any w1.heap.size w1.heap.size _ _ _ hI3 (by rw [sizeL];omega) (by omega)).mono ?_;rintro e w4 ⟨rfl,h4,b4,_⟩;rw [strL,← Lib.byteCells_append] at h4;have hB4:=hB3.trans b4;have hs4:=b4.size;clear hI3 b4 hB3;go_wp2_with fail;go_roundw
       case rel=>exact ⟨pos+ew,f,acc++ep,by go_num,.inr h4,hB4,by omega,by omega,by omega,by rw [List.length_append];omega,HA⟩
       case measure=>simp [RowKit.intOf];omega
     ·rw [if_neg k2] at hA2;have t2:((c:Int)==92)=false:=nB (by omega);have HA:Hid (rdL f (acc++[UInt8.ofNat c]) (List.drop (pos+1) s.data.toList) (pos+1)=readL s.data.toList):=hA2;have HC:Hid (Lib.byteCells acc++[Value.int .u8 (c:Int)]=Lib.byteCells (acc++[UInt8.ofNat c])):=by
       show _=_;rw [Lib.byteCells_append];simp [Lib.byteCells,ofNat_toNat c (by omega)]
      clear hA2;go_wp2_with fail;refine (writeByte_any w1.heap.size w1.heap.size _ c _ hI (by omega) (by omega)).mono ?_;rintro e w4 ⟨rfl,h4,b4,_⟩;rw [HC.out] at h4;have hB4:=hb.trans b4;have hs4:=b4.size;clear hI b4 hb;go_wp2_with fail;go_roundw
      case rel=>exact ⟨pos+1,f,acc++[UInt8.ofNat c],by go_num,.inr h4,hB4,by omega,by omega,by omega,by rw [List.length_append];simp;omega,HA⟩
      case measure=>simp [RowKit.intOf];omega
   ·have hA2:=HA.out;rw [List.drop_eq_nil_of_le (by rw [← HSZ.out];omega),rdL_end] at hA2;have HN:Hid (readL s.data.toList=none):=hA2.symm;clear hA2 HA;go_wp2_with fail;go_ret3;exact ⟨hb,.inr ⟨HN.out,rfl⟩⟩
 ·rw [decide_eq_false hq] at HP;have HR:Hid (readL s.data.toList=none):=by
   show _=_;unfold readL;rw [if_neg hq]
  clear hq;go_enter Tryz.func130,Tryz.ntmps130;go_wp2_with fail;refine (hasPrefix_any _ _ _).mono ?_;rintro e w1 ⟨rfl,rfl⟩;rw [HP.out];go_wp2_with fail;go_ret3;exact ⟨bE _ _,.inr ⟨HR.out,rfl⟩⟩
end Go.Proofs.YtijpfbcippijoaaGreatDoor
