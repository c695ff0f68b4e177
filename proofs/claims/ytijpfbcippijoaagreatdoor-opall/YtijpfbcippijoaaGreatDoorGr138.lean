import Derived.Test.YtijpfbcippijoaaGreatDoorAl
import Derived.Test.YtijpfbcippijoaaGreatDoorGr146
set_option maxHeartbeats 2000000
set_option maxRecDepth 100000
namespace Go.Proofs.YtijpfbcippijoaaGreatDoor
def at0 (l:List UInt8) (k:Nat):Nat:=(l.getD k 0).toNat
def decN (n b0 b1 b2 b3:Nat):Nat×Nat :=
 if b0<0x80 then (b0,1)
 else if b0 / 32=6∧1<n∧b1 / 64=2 then
  if b0 % 32*64+b1 % 64≥0x80 then (b0 % 32*64+b1 % 64,2) else (65533,1)
 else if b0 / 16=14∧(1<n∧b1 / 64=2)∧2<n∧b2 / 64=2 then
  if b0 % 16*4096+b1 % 64*64+b2 % 64≥0x800∧Utf8.valid ((b0 % 16*4096+b1 % 64*64+b2 % 64:Nat):Int)=true then (b0 % 16*4096+b1 % 64*64+b2 % 64,3) else (65533,1)
 else if b0 / 8=30∧(1<n∧b1 / 64=2)∧(2<n∧b2 / 64=2)∧3<n∧b3 / 64=2 then
  if b0 % 8*262144+b1 % 64*4096+b2 % 64*64+b3 % 64≥0x10000∧Utf8.valid ((b0 % 8*262144+b1 % 64*4096+b2 % 64*64+b3 % 64:Nat):Int)=true then (b0 % 8*262144+b1 % 64*4096+b2 % 64*64+b3 % 64,4) else (65533,1)
 else (65533,1)
def dec (l:List UInt8):Nat×Nat:=decN l.length (at0 l 0) (at0 l 1) (at0 l 2) (at0 l 3)
theorem at0_lt (l:List UInt8) (k:Nat):at0 l k<256:=UInt8.toNat_lt _
theorem get_drop (s:ByteArray) (pos k:Nat):(s.get! (pos+k)).toNat=at0 (s.data.toList.drop pos) k:=by
 unfold at0
 congr 1
 show s.data[pos+k]! = _;rw [List.getD_eq_getElem?_getD,List.getElem?_drop,Array.getElem?_toList,getElem!_def];cases s.data[pos+k]?<;>rfl
theorem size_data (s:ByteArray):s.size=s.data.toList.length:=by rw [Array.length_toList];rfl
theorem decode_dec (s:ByteArray) (pos:Nat):Utf8.decode s pos=dec (s.data.toList.drop pos):=by
 have hc:∀ k,(pos+k<s.size)=(k<s.size-pos):=fun k=>by apply propext;omega
 have hl:(s.data.toList.drop pos).length=s.size-pos:=by rw [List.length_drop,size_data]
 unfold Utf8.decode dec decN;simp only [get_drop,hc,hl,Utf8.runeError,Bool.and_eq_true,decide_eq_true_eq,beq_iff_eq,and_assoc]
def encB (r:Int):List UInt8:=(Utf8.encode r).data.toList
def encs (rs:List Int):List UInt8:=rs.flatMap encB
theorem valid_le {r:Int} (h:Utf8.valid r=true):0≤r∧r≤1114111∧¬ (55296≤r∧r≤57343):=by
 simp [Utf8.valid] at h;omega
theorem valid_of {r:Int} (h0:0≤r) (h1:r≤1114111) (h:¬ (55296≤r∧r≤57343)):Utf8.valid r=true:=by
 simp [Utf8.valid];omega
theorem ofNat_toNat (x:Nat) (h:x<256):(UInt8.ofNat x).toNat=x:=by simp;omega
theorem at0_cons0 (b:UInt8) (l:List UInt8):at0 (b::l) 0=b.toNat:=rfl
theorem dec1 (b:UInt8) (l:List UInt8):dec (b::l)=decN (l.length+1) b.toNat (at0 l 0) (at0 l 1) (at0 l 2):=rfl
def enc2 (c:Nat):ByteArray :=
 let b (n:Nat):UInt8:=UInt8.ofNat n
 if c<0x80 then ⟨#[b c]⟩
 else if c<0x800 then ⟨#[b (0xC0+c / 64),b (0x80+c % 64)]⟩
 else if c<0x10000 then ⟨#[b (0xE0+c / 4096),b (0x80+c / 64 % 64),b (0x80+c % 64)]⟩
 else ⟨#[b (0xF0+c / 262144),b (0x80+c / 4096 % 64),b (0x80+c / 64 % 64),b (0x80+c % 64)]⟩
theorem encode_if (r:Int):Utf8.encode r=enc2 (if Utf8.valid r=true then r.toNat else Utf8.runeError):=rfl
theorem encode_at (c:Nat) (hv:Utf8.valid (c:Int)=true):(if Utf8.valid (c:Int)=true then (c:Int).toNat else Utf8.runeError)=c:=by
 rw [if_pos hv];exact Int.toNat_natCast c
theorem encode_enc2 (c:Nat) (hv:Utf8.valid (c:Int)=true):Utf8.encode (c:Int)=enc2 c:=by rw [encode_if,encode_at c hv]
theorem encB_is (r:Int):encB r=(Utf8.encode r).data.toList:=rfl
theorem encB_enc2 (c:Nat) (hv:Utf8.valid (c:Int)=true):encB c=(enc2 c).data.toList:=by rw [encB_is,encode_enc2 c hv]
theorem encB1 (c:Nat) (h:c<0x80):encB c=[UInt8.ofNat c]:=by
 rw [encB_enc2 c (valid_of (by omega) (by omega) (by omega))];unfold enc2;simp only [if_pos h]
theorem encB2 (c:Nat) (h:c<0x800) (h2:0x80≤c):encB c=[UInt8.ofNat (0xC0+c / 64),UInt8.ofNat (0x80+c % 64)]:=by
 rw [encB_enc2 c (valid_of (by omega) (by omega) (by omega))];unfold enc2;simp only [if_pos h,if_neg (show ¬ c<0x80 by omega)]
theorem encB3 (c:Nat) (h:c<0x10000) (h2:0x800≤c) (hv:Utf8.valid (c:Int)=true):encB c=[UInt8.ofNat (0xE0+c / 4096),UInt8.ofNat (0x80+c / 64 % 64),UInt8.ofNat (0x80+c % 64)]:=by
 rw [encB_enc2 c hv];unfold enc2;simp only [if_pos h,if_neg (show ¬ c<0x80 by omega),if_neg (show ¬ c<0x800 by omega)]
theorem encB4 (c:Nat) (h2:0x10000≤c) (hv:Utf8.valid (c:Int)=true):encB c=[UInt8.ofNat (0xF0+c / 262144),UInt8.ofNat (0x80+c / 4096 % 64),UInt8.ofNat (0x80+c / 64 % 64),UInt8.ofNat (0x80+c % 64)]:=by
 rw [encB_enc2 c hv];unfold enc2;simp only [if_neg (show ¬ c<0x80 by omega),if_neg (show ¬ c<0x800 by omega),if_neg (show ¬ c<0x10000 by omega)]
theorem dec_enc (r:Int) (hv:Utf8.valid r=true) (rest:List UInt8):dec (encB r++rest)=(r.toNat,(encB r).length):=by
 obtain ⟨h0,h1,h2⟩:=valid_le hv;obtain ⟨c,rfl⟩:=Int.eq_ofNat_of_zero_le h0;rw [Int.toNat_natCast];by_cases a:c<0x80
 ·rw [encB1 c a];show decN (rest.length+1) (UInt8.ofNat c).toNat _ _ _=(c,1);rw [ofNat_toNat c (by omega)];unfold decN;rw [if_pos a]
 by_cases b:c<0x800
 ·rw [encB2 c b (by omega)];show decN (rest.length+2) (UInt8.ofNat (0xC0+c / 64)).toNat (UInt8.ofNat (0x80+c % 64)).toNat _ _=(c,2);rw [ofNat_toNat _ (by omega),ofNat_toNat _ (by omega)];have q4:(0xC0+c / 64) % 32*64+(0x80+c % 64) % 64=c:=by omega
  unfold decN;rw [if_neg (by omega),if_pos (by omega),q4,if_pos (by omega)]
 by_cases d:c<0x10000
 ·rw [encB3 c d (by omega) hv];show decN (rest.length+3) (UInt8.ofNat (0xE0+c / 4096)).toNat (UInt8.ofNat (0x80+c / 64 % 64)).toNat (UInt8.ofNat (0x80+c % 64)).toNat _=(c,3);rw [ofNat_toNat _ (by omega),ofNat_toNat _ (by omega),ofNat_toNat _ (by omega)];have q4:(0xE0+c / 4096) % 16*4096+(0x80+c / 64 % 64) % 64*64+(0x80+c % 64) % 64=c:=by omega
  unfold decN;rw [if_neg (by omega),if_neg (by omega),if_pos (by omega),q4,if_pos ⟨by omega,hv⟩]
 ·rw [encB4 c (by omega) hv];show decN (rest.length+4) (UInt8.ofNat (0xF0+c / 262144)).toNat (UInt8.ofNat (0x80+c / 4096 % 64)).toNat (UInt8.ofNat (0x80+c / 64 % 64)).toNat (UInt8.ofNat (0x80+c % 64)).toNat=(c,4);rw [ofNat_toNat _ (by omega),ofNat_toNat _ (by omega),ofNat_toNat _ (by omega),ofNat_toNat _ (by omega)];have q4:(0xF0+c / 262144) % 8*262144+(0x80+c / 4096 % 64) % 64*4096+(0x80+c / 64 % 64) % 64*64+(0x80+c % 64) % 64=c:=by omega
  unfold decN;rw [if_neg (by omega),if_neg (by omega),if_neg (by omega),if_pos (by omega),q4,if_pos ⟨by omega,hv⟩]
theorem ofNat_of_toNat (b:UInt8) (n:Nat) (h:n=b.toNat):UInt8.ofNat n=b:=by subst h;simp
def brkL (l:List UInt8):Bool:=if (dec l).1=65533 then !(l.take 3==[239,191,189]) else false
theorem take_of_cons3 {l:List UInt8} {a b c:UInt8} (h:l.take 3=[a,b,c]):∃ rest,l=a::b::c::rest:=by
 match l,h with
 | x::y::z::rest,h =>
  simp at h;obtain ⟨rfl,rfl,rfl⟩:=h;exact ⟨rest,rfl⟩
theorem enc_dec (l:List UInt8) (h0:l≠[]) (hb:brkL l=false) :
  Utf8.valid ((dec l).1:Int)=true∧(dec l).2=(encB (dec l).1).length∧∃ rest,l=encB (dec l).1++rest:=by
 match l,h0 with
 | b0::t,_ =>
  have k0:=b0.toNat_lt;rw [dec1] at *;unfold brkL at hb;rw [dec1] at hb;have fin:decN (t.length+1) b0.toNat (at0 t 0) (at0 t 1) (at0 t 2)=(65533,1)→False:=fun e=>by
   rw [e] at hb;simp only [if_true,Bool.not_eq_false',beq_iff_eq] at hb;obtain ⟨rest,hl⟩:=take_of_cons3 hb;have e2:=dec_enc 65533 (by decide) rest;rw [show encB 65533=[239,191,189] by decide] at e2;have e3:dec (b0::t)=(65533,3):=by rw [hl];exact e2
   rw [dec1,e] at e3;cases e3
  clear hb;by_cases a:b0.toNat<0x80
  ·have e:decN (t.length+1) b0.toNat (at0 t 0) (at0 t 1) (at0 t 2)=(b0.toNat,1):=by unfold decN;rw [if_pos a]
   rw [e,encB1 _ a];exact ⟨valid_of (by omega) (by omega) (by omega),rfl,t,by simp⟩
  by_cases b:b0.toNat / 32=6∧1<t.length+1∧at0 t 0 / 64=2
  ·match t,b with
   | b1::u,b =>
    have k1:=b1.toNat_lt;rw [at0_cons0] at *;have e:decN ((b1::u).length+1) b0.toNat b1.toNat (at0 (b1::u) 1) (at0 (b1::u) 2)=if b0.toNat % 32*64+b1.toNat % 64≥0x80 then (b0.toNat % 32*64+b1.toNat % 64,2) else (65533,1):=by
     unfold decN;rw [if_neg a,if_pos b]
    by_cases g:b0.toNat % 32*64+b1.toNat % 64≥0x80
    ·rw [if_pos g] at e;rw [e];show Utf8.valid ((b0.toNat % 32*64+b1.toNat % 64:Nat):Int)=true∧2=(encB ((b0.toNat % 32*64+b1.toNat % 64:Nat):Int)).length∧∃ rest,b0::b1::u=encB ((b0.toNat % 32*64+b1.toNat % 64:Nat):Int)++rest;rw [encB2 _ (by omega) g];refine ⟨valid_of (by omega) (by omega) (by omega),rfl,u,?_⟩;rw [ofNat_of_toNat b0 _ (by omega),ofNat_of_toNat b1 _ (by omega)];rfl
    ·rw [if_neg g] at e;exact (fin e).elim
  by_cases c:b0.toNat / 16=14∧(1<t.length+1∧at0 t 0 / 64=2)∧2<t.length+1∧at0 t 1 / 64=2
  ·match t,b,c with
   | b1::b2::u,b,c =>
    have k1:=b1.toNat_lt;have k2:=b2.toNat_lt;rw [at0_cons0,show at0 (b1::b2::u) 1=b2.toNat from rfl] at *;have e:decN ((b1::b2::u).length+1) b0.toNat b1.toNat b2.toNat (at0 (b1::b2::u) 2)=if b0.toNat % 16*4096+b1.toNat % 64*64+b2.toNat % 64≥0x800∧Utf8.valid ((b0.toNat % 16*4096+b1.toNat % 64*64+b2.toNat % 64:Nat):Int)=true then (b0.toNat % 16*4096+b1.toNat % 64*64+b2.toNat % 64,3) else (65533,1):=by
     unfold decN;rw [if_neg a,if_neg b,if_pos c]
    by_cases g:b0.toNat % 16*4096+b1.toNat % 64*64+b2.toNat % 64≥0x800∧Utf8.valid ((b0.toNat % 16*4096+b1.toNat % 64*64+b2.toNat % 64:Nat):Int)=true
    ·rw [if_pos g] at e;rw [e];show Utf8.valid ((b0.toNat % 16*4096+b1.toNat % 64*64+b2.toNat % 64:Nat):Int)=true∧3=(encB ((b0.toNat % 16*4096+b1.toNat % 64*64+b2.toNat % 64:Nat):Int)).length∧∃ rest,b0::b1::b2::u=encB ((b0.toNat % 16*4096+b1.toNat % 64*64+b2.toNat % 64:Nat):Int)++rest;obtain ⟨g1,g2⟩:=g;rw [encB3 _ (by omega) g1 g2];refine ⟨g2,rfl,u,?_⟩;rw [ofNat_of_toNat b0 _ (by omega),ofNat_of_toNat b1 _ (by omega),ofNat_of_toNat b2 _ (by omega)];rfl
    ·rw [if_neg g] at e;exact (fin e).elim
  by_cases d:b0.toNat / 8=30∧(1<t.length+1∧at0 t 0 / 64=2)∧(2<t.length+1∧at0 t 1 / 64=2)∧3<t.length+1∧at0 t 2 / 64=2
  ·match t,b,c,d with
   | b1::b2::b3::u,b,c,d =>
    have k1:=b1.toNat_lt;have k2:=b2.toNat_lt;have k3:=b3.toNat_lt;rw [at0_cons0,show at0 (b1::b2::b3::u) 1=b2.toNat from rfl,show at0 (b1::b2::b3::u) 2=b3.toNat from rfl] at *;have e:decN ((b1::b2::b3::u).length+1) b0.toNat b1.toNat b2.toNat b3.toNat=if b0.toNat % 8*262144+b1.toNat % 64*4096+b2.toNat % 64*64+b3.toNat % 64≥0x10000∧Utf8.valid ((b0.toNat % 8*262144+b1.toNat % 64*4096+b2.toNat % 64*64+b3.toNat % 64:Nat):Int)=true then (b0.toNat % 8*262144+b1.toNat % 64*4096+b2.toNat % 64*64+b3.toNat % 64,4) else (65533,1):=by
     unfold decN;rw [if_neg a,if_neg b,if_neg c,if_pos d]
    by_cases g:b0.toNat % 8*262144+b1.toNat % 64*4096+b2.toNat % 64*64+b3.toNat % 64≥0x10000∧Utf8.valid ((b0.toNat % 8*262144+b1.toNat % 64*4096+b2.toNat % 64*64+b3.toNat % 64:Nat):Int)=true
    ·rw [if_pos g] at e;rw [e];show Utf8.valid ((b0.toNat % 8*262144+b1.toNat % 64*4096+b2.toNat % 64*64+b3.toNat % 64:Nat):Int)=true∧4=(encB ((b0.toNat % 8*262144+b1.toNat % 64*4096+b2.toNat % 64*64+b3.toNat % 64:Nat):Int)).length∧∃ rest,b0::b1::b2::b3::u=encB ((b0.toNat % 8*262144+b1.toNat % 64*4096+b2.toNat % 64*64+b3.toNat % 64:Nat):Int)++rest;obtain ⟨g1,g2⟩:=g;rw [encB4 _ g1 g2];refine ⟨g2,rfl,u,?_⟩;rw [ofNat_of_toNat b0 _ (by omega),ofNat_of_toNat b1 _ (by omega),ofNat_of_toNat b2 _ (by omega),ofNat_of_toNat b3 _ (by omega)];rfl
    ·rw [if_neg g] at e;exact (fin e).elim
  ·exact (fin (by unfold decN;rw [if_neg a,if_neg b,if_neg c,if_neg d])).elim
def okR (r:Int):Prop:=Utf8.valid r=true∧okRune r=true
def bad (l:List UInt8):Prop:=l≠[]∧(brkL l=true∨okRune (dec l).1=false)
def faultOf (l:List UInt8):Int:=if brkL l=true then 10 else 11
theorem encB_pos (r:Int):1≤(encB r).length:=by
 unfold encB;rw [encode_if];unfold enc2;simp only
 repeat' split
 all_goals simp
theorem encs_cons (r:Int) (rs:List Int):encs (r::rs)=encB r++encs rs:=rfl
theorem encs_append (a b:List Int):encs (a++b)=encs a++encs b:=by simp [encs]
theorem split_text:∀ (n:Nat) (l:List UInt8),l.length≤n→∃ rs rest,l=encs rs++rest∧(∀ r∈rs,okR r)∧(rest=[]∨bad rest)
 | 0,l,h=>⟨[],l,rfl,fun _ h=>(by cases h),.inl (List.length_eq_zero_iff.1 (by omega))⟩
 | n+1,l,h=>by
  by_cases h0:l=[]
  ·exact ⟨[],l,rfl,fun _ h=>(by cases h),.inl h0⟩
  by_cases hb:bad l
  ·exact ⟨[],l,rfl,fun _ h=>(by cases h),.inr hb⟩
  have h1:brkL l=false:=by
   cases e:brkL l with
   | false=>rfl
   | true=>exact (hb ⟨h0,.inl e⟩).elim
  have h2:okRune (dec l).1=true:=by
   cases e:okRune (dec l).1 with
   | true=>rfl
   | false=>exact (hb ⟨h0,.inr e⟩).elim
  obtain ⟨hv,_,t,ht⟩:=enc_dec l h0 h1;have hp:=encB_pos (dec l).1;have hl:t.length≤n:=by
   have:=congrArg List.length ht;rw [List.length_append] at this;omega
  obtain ⟨rs,rest,e,ha,hr⟩:=split_text n t hl;refine ⟨((dec l).1:Int)::rs,rest,?_,?_,hr⟩
  ·rw [encs_cons,List.append_assoc,← e];exact ht
  ·intro r hr';cases List.mem_cons.1 hr' with
   | inl e'=>subst e';exact ⟨hv,h2⟩
   | inr e'=>exact ha r e'
theorem extract_list (s:ByteArray) (i j:Nat):(s.extract i j).data.toList=(s.data.toList.take j).drop i:=by
 rw [ByteArray.data_extract,Array.toList_extract,List.extract_eq_take_drop,List.drop_take]
theorem extract_rest (s:ByteArray) (i:Nat):(s.extract i s.size).data.toList=s.data.toList.drop i:=by
 rw [extract_list,size_data,List.take_length]
theorem pre_take (s:ByteArray) (pos:Nat):pre (s.extract pos s.size) ef=((s.data.toList.drop pos).take 3==[239,191,189]):=by
 have e3:ef.size=3:=rfl;have e6:ef.toList=[239,191,189]:=by rw [Go.ByteArray.toList_eq];rfl
 have e7:((s.extract pos s.size).extract 0 3).toList=(s.data.toList.drop pos).take 3:=by
  rw [Go.ByteArray.toList_eq,extract_list,extract_rest];rfl
 have e8:(s.extract pos s.size).size=(s.data.toList.drop pos).length:=by rw [size_data,extract_rest]
 unfold pre;rw [e3,e6,e7,e8];split
 ·rfl
 ·rw [eq_comm,beq_eq_false_iff_ne];intro e;have:=congrArg List.length e;simp at this;simp at *;omega
theorem brk_brkL (s:ByteArray) (pos:Nat):brk s pos ((Utf8.decode s pos).1:Int)=brkL (s.data.toList.drop pos):=by
 unfold brk brkL;rw [decode_dec,pre_take];by_cases h:(dec (s.data.toList.drop pos)).1=65533
 ·rw [if_pos h,if_pos (by rw [h];rfl)]
 ·rw [if_neg h,if_neg (fun e=>h (by omega))]
theorem bad_no {l:List UInt8} (h:bad l):brkL l=true∨(brkL l=false∧okRune (dec l).1=false):=by
 obtain ⟨_,h|h⟩:=h
 ·exact .inl h
 ·cases e:brkL l with
  | true=>exact .inl rfl
  | false=>exact .inr ⟨rfl,h⟩
theorem brkL_enc (r:Int) (hv:Utf8.valid r=true) (t:List UInt8):brkL (encB r++t)=false:=by
 unfold brkL;rw [dec_enc r hv t];obtain ⟨h0,_,_⟩:=valid_le hv;by_cases h:r.toNat=65533
 ·have:r=65533:=by omega
  subst this;rw [show encB 65533=[239,191,189] by decide];rfl
 ·rw [if_neg h]
theorem chk_run (s:ByteArray) (rest:List UInt8) (hr:rest=[]∨bad rest):∀ (rs:List Int) (b pos n:Nat),s.data.toList.drop pos=encs rs++rest→(∀ r∈rs,okR r)→pos≤s.size→s.size≤pos+b →
  chk s b pos n=if rest=[] then (((n+rs.length:Nat):Int),0,0) else (0,((pos+(encs rs).length:Nat):Int),faultOf rest)
 | [],b,pos,n,hd,_,hp,hb=>by
  have hd':s.data.toList.drop pos=rest:=hd;by_cases h0:rest=[]
  ·have hl:¬ pos<s.size:=by
    have:=congrArg List.length hd';rw [h0,List.length_drop,← size_data] at this;simp at this;omega
   rw [chk_end s b pos n hl,if_pos h0];rfl
  ·have hb0:=hr.resolve_left h0;have hl:pos<s.size:=by
    have:=congrArg List.length hd';rw [List.length_drop,← size_data] at this;have:=List.length_pos_iff.2 h0;omega
   obtain ⟨b,rfl⟩:∃ b',b=b'+1:=⟨b-1,by omega⟩;rw [if_neg h0];simp only [chk,if_pos hl,brk_brkL];simp only [decode_dec,hd'];rcases bad_no hb0 with h|⟨h,h'⟩
   ·rw [if_pos h];simp [faultOf,h,encs]
   ·rw [h,if_neg (by simp),h',if_neg (by simp)];simp [faultOf,h,encs]
 | r::rs,b,pos,n,hd,ha,hp,hb=>by
  obtain ⟨hv,hok⟩:=ha r (List.mem_cons_self ..);have hv0:=valid_le hv;rw [encs_cons,List.append_assoc] at hd;have hlen:=encB_pos r;have hl:pos+(encB r).length≤s.size:=by
   have:=congrArg List.length hd;rw [List.length_drop,← size_data,List.length_append] at this;omega
  obtain ⟨b,rfl⟩:∃ b',b=b'+1:=⟨b-1,by omega⟩;simp only [chk,if_pos (show pos<s.size by omega),brk_brkL];simp only [decode_dec,hd,brkL_enc r hv,dec_enc r hv];have e:((r.toNat:Nat):Int)=r:=by omega
  rw [if_neg (by simp),e,hok,if_pos rfl];have hd2:s.data.toList.drop (pos+(encB r).length)=encs rs++rest:=by
   rw [← List.drop_drop,hd,List.drop_left]
  rw [chk_run s rest hr rs b (pos+(encB r).length) (n+1) hd2 (fun x hx=>ha x (List.mem_cons_of_mem _ hx)) hl (by omega)];simp only [encs_cons,List.length_cons,List.length_append];split
  ·congr 2;omega
  ·congr 3;omega
theorem check_text (s:ByteArray) (rs:List Int) (h:s.data.toList=encs rs) (ha:∀ r∈rs,okR r):check s=((rs.length:Int),0,0):=by
 have:=chk_run s [] (.inl rfl) rs s.size 0 0 (by rw [List.drop_zero,h,List.append_nil]) ha (by omega) (by omega);unfold check;rw [this,if_pos rfl,Nat.zero_add]
theorem check_fault (s:ByteArray) (rs:List Int) (rest:List UInt8) (h:s.data.toList=encs rs++rest) (ha:∀ r∈rs,okR r) (hr:bad rest):check s=(0,((encs rs).length:Int),faultOf rest):=by
 have:=chk_run s rest (.inr hr) rs s.size 0 0 (by rw [List.drop_zero,h]) ha (by omega) (by omega);unfold check;rw [this,if_neg hr.1,Nat.zero_add]
theorem check_split (s:ByteArray):(∃ rs,s.data.toList=encs rs∧(∀ r∈rs,okR r)∧check s=((rs.length:Int),0,0)) ∨
  (∃ rs rest,s.data.toList=encs rs++rest∧(∀ r∈rs,okR r)∧bad rest∧check s=(0,((encs rs).length:Int),faultOf rest)):=by
 obtain ⟨rs,rest,e,ha,hr⟩:=split_text _ s.data.toList (lR _);rcases hr with rfl|hr
 ·rw [List.append_nil] at e;exact .inl ⟨rs,e,ha,check_text s rs e ha⟩
 ·exact .inr ⟨rs,rest,e,ha,hr,check_fault s rs rest e ha hr⟩
end Go.Proofs.YtijpfbcippijoaaGreatDoor
namespace Go.Proofs.YtijpfbcippijoaaGreatDoor
open Go.RowKit Go.Lib
theorem encs_len2 (rs:List Int):rs.length≤(encs rs).length:=by
 induction rs with
 | nil=>simp
 | cons r rs ih=>have:=encB_pos r;rw [encs_cons,List.length_cons,List.length_append];omega
def posOf (rs:List Int) (j:Nat):Nat:=(encs (rs.take j)).length
theorem posOf_zero (rs:List Int):posOf rs 0=0:=by simp [posOf,encs]
theorem posOf_succ (rs:List Int) (j:Nat) (h:j<rs.length):posOf rs (j+1)=posOf rs j+(encB rs[j]).length:=by
 unfold posOf;rw [List.take_succ_eq_append_getElem h,encs_append,List.length_append];simp [encs]
theorem posOf_all (rs:List Int):posOf rs rs.length=(encs rs).length:=by simp [posOf]
theorem posOf_drop (rs:List Int) (j:Nat):(encs rs).drop (posOf rs j)=encs (rs.drop j):=by
 unfold posOf;have h:=encs_append (rs.take j) (rs.drop j);rw [List.take_append_drop] at h;rw [h,List.drop_left]
theorem posOf_mono (rs:List Int) {i j:Nat} (h:i≤j):posOf rs i≤posOf rs j:=by
 unfold posOf;have h2:rs.take j=rs.take i++(rs.take j).drop i:=by
  have:=List.take_append_drop i (rs.take j);rw [List.take_take,Nat.min_eq_left h] at this;exact this.symm
 rw [h2,encs_append,List.length_append];omega
theorem posOf_le (rs:List Int) (j:Nat):posOf rs j≤(encs rs).length:=by
 rcases Nat.le_total j rs.length with h|h
 ·rw [← posOf_all];exact posOf_mono rs h
 ·rw [posOf,List.take_of_length_le h];exact lR _
theorem posOf_lt (rs:List Int) {i j:Nat} (h:i<j) (hj:j≤rs.length):posOf rs i<posOf rs j:=by
 have h1:=posOf_succ rs i (by omega);have h2:=encB_pos rs[i];have h3:=posOf_mono rs (show i+1≤j by omega);omega
theorem posOf_ge (rs:List Int) (j:Nat) (h:j≤rs.length):j≤posOf rs j:=by
 have:=encs_len2 (rs.take j);rw [List.length_take,Nat.min_eq_left h] at this;exact this
structure IsText (s:ByteArray) (rs:List Int):Prop where
 bytes:s.data.toList=encs rs
 ok:∀ r∈rs,okR r
theorem IsText.size {s:ByteArray} {rs:List Int} (h:IsText s rs):s.size=posOf rs rs.length:=by rw [size_data,h.bytes,posOf_all]
theorem IsText.check {s:ByteArray} {rs:List Int} (h:IsText s rs):check s=((rs.length:Int),0,0):=check_text s rs h.bytes h.ok
theorem IsText.okAt {s:ByteArray} {rs:List Int} (h:IsText s rs) (j:Nat) (hj:j<rs.length):okR rs[j]:=h.ok _ (List.getElem_mem hj)
theorem IsText.bound {s:ByteArray} {rs:List Int} (h:IsText s rs) (j:Nat) (hj:j<rs.length):0≤rs[j]∧rs[j]≤1114111:=by
 have:=valid_le (h.okAt j hj).1;omega
theorem IsText.decode {s:ByteArray} {rs:List Int} (h:IsText s rs) (j:Nat) (hj:j<rs.length):Utf8.decode s (posOf rs j)=(rs[j].toNat,(encB rs[j]).length):=by
 rw [decode_dec,h.bytes,posOf_drop,List.drop_eq_getElem_cons hj,encs_cons];exact dec_enc _ (h.okAt j hj).1 _
section
variable {P : Program}
theorem run_next_text {s:ByteArray} {rs:List Int} (h:IsText s rs) (w:World) (k j:Nat) (ty:TypeId) (hk:w.heap[k]?=some (.stringIter s (posOf rs j))) (hj:j<rs.length) :
  (Instr.next (.pointer (some ⟨k,0,none⟩)) true ty).run P w=.ok (.tuple #[.bool true,.int .i64 (posOf rs j),.int .i32 rs[j]]) (w.iterAt k s (posOf rs (j+1))):=by
 have hlt:posOf rs j<s.size:=by rw [h.size];exact posOf_lt rs hj (lR _)
 rw [run_next_any_at w k s (posOf rs j) ty hk hlt,h.decode j hj,posOf_succ rs j hj];have:=(h.bound j hj).1;rw [show ((rs[j].toNat:Nat):Int)=rs[j] by omega]
theorem run_next_done {s:ByteArray} {rs:List Int} (h:IsText s rs) (w:World) (k:Nat) (ty:TypeId) (hk:w.heap[k]?=some (.stringIter s (posOf rs rs.length))) :
  (Instr.next (.pointer (some ⟨k,0,none⟩)) true ty).run P w=.ok (.tuple #[.bool false]) w :=
 run_next_end_at w k s _ ty hk (by rw [h.size];omega)
end
theorem iterPos_of' {w:World} {k:Nat} {s:ByteArray} {p:Nat} (h:w.heap[k]?=some (.stringIter s p)):w.iterPos k=p:=by simp [World.iterPos,h]
structure Bar (w:World):Prop where
 lies:∃ t fr,w.heap[0]?=some (.cells barCells t fr)
theorem Bar.below {w w':World} (h:Bar w) (hb:Below w.heap.size w w'):Bar w':=by
 obtain ⟨t,fr,hg⟩:=h.lies;exact ⟨t,fr,bar_below hb (gA hg) hg⟩
theorem check_bar {s:ByteArray} {n p c:Int} (hs:s.size≤9223372036854775807) (h:check s=(n,p,c)) (w:World) (hw:Bar w) :
  Calls Tryz.prog 51 #[.string s] w fun e w'=>e=.returned (.tuple #[.int .i64 n,.int .i64 p,.int .i64 c])∧Below w.heap.size w w':=by
 obtain ⟨t,fr,hg⟩:=hw.lies;exact check_eq s (by unfold maxLen;omega) h w fr t hg
end Go.Proofs.YtijpfbcippijoaaGreatDoor
namespace Go.Proofs.YtijpfbcippijoaaGreatDoor
open Go.RowKit Go.Lib Sp
theorem slicesEq_any {w:World} {a:Option Addr} {n cap:Nat} {l:List (Int×Int)} (h:Rng w a n cap l) {b:Option Addr} {m capb:Nat} {k:List (Int×Int)} (hk:Rng w b m capb k) :
  Calls Tryz.prog 75 #[.slice a n cap,.slice b m capb] w fun e w'=>e=.returned (.bool (decide (l=k)))∧Below w.heap.size w w':=by
 have hln:=h.len;have hkn:=hk.len;have hnb:n≤9223372036854775807:=by have:=h.room;simp only [maxLen] at this;omega
 by_cases hnm:n=m
 ·subst hnm;obtain ⟨r,hr⟩:∃ r,decide (l=k)=r:=⟨_,rfl⟩;have HR:Hid (decide (l=k)=r):=hr;rw [hr];clear hr;go_enter Tryz.func75,Tryz.ntmps75;go_wp2_with fail;go_loopw [5,13] (fun u i w'=>∃ j:Nat,j≤n∧i=.int .i64 j∧Below w.heap.size w w'∧Hid (∀ i,i<j→l.getD i (0,0)=k.getD i (0,0))) (fun _ i _=>n-(RowKit.intOf i).toNat)
  case atStart=>exact ⟨0,Nat.zero_le _,rfl,bE _ _,fun i hi=>by omega⟩
  case round =>
   obtain ⟨j,hjn,rfl,hb,HE⟩:=hrel;by_cases hj:j<n
   ·obtain ⟨g,off,rfl,hg,hc,hd⟩:=h.cells j hj;obtain ⟨g2,off2,rfl,hg2,hc2,hd2⟩:=hk.cells j hj;have c0:=(hb.cell (p:=⟨g,off+j*2,none⟩) hg).trans hc;have c1:=(hb.cell (p:=⟨g,off+j*2+1,none⟩) hg).trans hd;have c2:=(hb.cell (p:=⟨g2,off2+j*2,none⟩) hg2).trans hc2;have c3:=(hb.cell (p:=⟨g2,off2+j*2+1,none⟩) hg2).trans hd2;clear hc hd hc2 hd2;by_cases he:l.getD j (0,0)=k.getD j (0,0)
    ·have HE2:Hid (∀ i,i<j+1→l.getD i (0,0)=k.getD i (0,0)):=fun i hi=>by
      by_cases e:i=j
      ·subst e;exact he
      ·exact HE.out i (by omega)
     rw [← he] at c2 c3;generalize (l.getD j (0,0)).1=x at *;generalize (l.getD j (0,0)).2=y at *;clear he HE;go_wp2_with fail;go_quiet (fail);go_wp2_with fail;go_roundw
     case rel=>exact ⟨j+1,by omega,by go_num,below_drewN hb _,HE2⟩
     case measure=>simp [RowKit.intOf];omega
    ·have hne:r=false:=by
      rw [← HR.out];exact decide_eq_false (fun e=>he (by rw [e]))
     subst hne;clear HE HR;obtain ⟨x,y,hxy⟩:∃ x y,l.getD j (0,0)=(x,y):=⟨_,_,rfl⟩;obtain ⟨x2,y2,hxy2⟩:∃ x y,k.getD j (0,0)=(x,y):=⟨_,_,rfl⟩;rw [hxy] at c0 c1 he;rw [hxy2] at c2 c3 he;simp only at c0 c1 c2 c3;clear hxy hxy2;by_cases hx:x=x2
     ·subst hx;have t1:(y==y2)=false:=nB (fun e=>he (by rw [e]));clear he;go_wp2_with fail;go_quiet (fail);go_wp2_with fail;go_ret;exact ⟨rfl,below_drewN hb _⟩
     ·have t1:(x==x2)=false:=nB hx;clear he hx;go_wp2_with fail;go_quiet (fail);go_wp2_with fail;go_ret;exact ⟨rfl,below_drewN hb _⟩
   ·have hr:r=true:=by
     rw [← HR.out];refine decide_eq_true (List.ext_getElem (by omega) fun i h1 h2=>?_);have:=HE.out i (by omega);simpa [List.getD_eq_getElem?_getD,h1,h2] using this
    subst hr;clear HR HE;go_wp2_with fail;go_ret;exact ⟨rfl,hb⟩
 ·have e0:decide (l=k)=false:=decide_eq_false (fun e=>by subst e;omega);rw [e0];have t1:((n:Int)==(m:Int))=false:=by simp;omega
  clear e0 hln hkn;go_enter Tryz.func75,Tryz.ntmps75;go_wp2_with fail;go_ret;exact ⟨rfl,bE _ _⟩
def opVal (o:OpV) (v:Value):Value:=.agg #[.int .i64 o.c,.int .i64 o.n,.int .i64 o.k,.int .i64 o.p,.string o.s,v,.int .i64 o.tc,.int .i64 o.tn,.bool o.on]
theorem run_eqID (w:World) (a b c d:Int):(Op.equalIn 10000 38 (.agg #[.int .i64 a,.int .i64 b]) (.agg #[.int .i64 c,.int .i64 d])).run Tryz.prog w=.ok (a==c&&b==d) w:=by
 show (Op.equalIn (9998+1+1) _ _ _).run _ _=_;rw [Op.equalIn];simp only [Sem.run_bind,run_underlying Tryz.underlying38,Result.andThen_ok,Tryz.sizeOf3];simp [List.range',part,Tryz.isAgg3,Tryz.sizeOf3,run_equalIn_int w _ _ _ _ _ _ Tryz.underlying3,Sem.run_bind,Result.andThen_ok,Sem.run_ite];by_cases h1:a=c<;>by_cases h2:b=d<;>simp [h1,h2]
theorem isID_any (c n:Int) (w:World):Calls Tryz.prog 46 #[.agg #[.int .i64 c,.int .i64 n]] w fun e w'=>e=.returned (.bool (isIdP c n))∧Below w.heap.size w w':=by
 obtain ⟨r,hr⟩:∃ r,isIdP c n=r:=⟨_,rfl⟩;rw [hr];unfold isIdP at hr;by_cases h1:1≤c
 ·by_cases h2:c≤8
  ·by_cases h3:1≤n
   ·by_cases h4:n≤1024
    ·rw [decide_eq_true ⟨h1,h2,h3,h4⟩] at hr;subst hr;go_enter Tryz.func46,Tryz.ntmps46;go_wp2_with fail;go_ret;exact ⟨rfl,(bE _ _).alloc (lR _) _⟩
    ·rw [decide_eq_false (by omega)] at hr;subst hr;have d4:decide (n≤1024)=false:=decide_eq_false h4;clear h4;go_enter Tryz.func46,Tryz.ntmps46;go_wp2_with fail;go_ret;exact ⟨rfl,(bE _ _).alloc (lR _) _⟩
   ·rw [decide_eq_false (by omega)] at hr;subst hr;have d4:decide (1≤n)=false:=decide_eq_false h3;clear h3;go_enter Tryz.func46,Tryz.ntmps46;go_wp2_with fail;go_ret;exact ⟨rfl,(bE _ _).alloc (lR _) _⟩
  ·rw [decide_eq_false (by omega)] at hr;subst hr;have d4:decide (c≤8)=false:=decide_eq_false h2;clear h2;go_enter Tryz.func46,Tryz.ntmps46;go_wp2_with fail;go_ret;exact ⟨rfl,(bE _ _).alloc (lR _) _⟩
 ·rw [decide_eq_false (by omega)] at hr;subst hr;have d4:decide (1≤c)=false:=decide_eq_false h1;clear h1;go_enter Tryz.func46,Tryz.ntmps46;go_wp2_with fail;go_ret;exact ⟨rfl,(bE _ _).alloc (lR _) _⟩
def eqP (o x:OpV):Bool:=decide (o.c=x.c∧o.n=x.n∧o.k=x.k∧o.p=x.p∧o.s=x.s∧o.l=x.l∧o.tc=x.tc∧o.tn=x.tn∧o.on=x.on)
theorem toList_inj {a b:ByteArray} (h:a.toList=b.toList):a=b:=by
 rw [ByteArray.toList_eq,ByteArray.toList_eq] at h;obtain ⟨⟨x⟩⟩:=a;obtain ⟨⟨y⟩⟩:=b;simp at h;subst h;rfl
theorem opEqual_any {o x:OpV} {w:World} {a b:Option Addr} {n m cap capb:Nat} (h:Rng w a n cap o.l) (hx:Rng w b m capb x.l) :
  Calls Tryz.prog 39 #[opVal o (.slice a n cap),opVal x (.slice b m capb)] w fun e w'=>e=.returned (.bool (eqP o x))∧Below w.heap.size w w':=by
 have HI:=run_eqID;have HG:Tryz.prog.eqGuardType Tryz.prog.depth 38=false:=by kernel_rfl
 obtain ⟨c1,n1,k1,p1,s1,l1,tc1,tn1,on1⟩:=o;obtain ⟨c2,n2,k2,p2,s2,l2,tc2,tn2,on2⟩:=x;simp only [opVal] at *;have HS:Hid (∀ w':World,Below w.heap.size w w'→Calls Tryz.prog 75 #[.slice a n cap,.slice b m capb] w' fun e w''=>e=.returned (.bool (decide (l1=l2)))∧Below w'.heap.size w' w''):=fun w' hb=>slicesEq_any (h.below hb) (hx.below hb)
 clear h hx;obtain ⟨r,hr⟩:∃ r,eqP ⟨c1,n1,k1,p1,s1,l1,tc1,tn1,on1⟩ ⟨c2,n2,k2,p2,s2,l2,tc2,tn2,on2⟩=r:=⟨_,rfl⟩;rw [hr];simp only [eqP] at hr;by_cases e0:c1=c2
 ·subst e0;by_cases e1:n1=n2
  ·subst e1;by_cases e2:k1=k2
   ·subst e2;by_cases e3:p1=p2
    ·subst e3;by_cases e4:s1=s2
     ·subst e4;by_cases e5:l1=l2
      ·subst e5;by_cases e6:tc1=tc2
       ·subst e6;by_cases e7:tn1=tn2
        ·subst e7;by_cases e8:on1=on2
         ·subst e8;have e6:decide True=true:=rfl;rw [decide_eq_true (by simp)] at hr;subst hr;go_enter Tryz.func39,Tryz.ntmps39;go_wp2_with fail;have hw2:=((bE w.heap.size w).alloc (lR _) (Obj.cells #[.int .i64 c1,.int .i64 n1,.int .i64 k1,.int .i64 p1,.string s1,.slice a n cap,.int .i64 tc1,.int .i64 tn1,.bool on1] 44)).alloc (by simp) (Obj.cells #[.int .i64 c1,.int .i64 n1,.int .i64 k1,.int .i64 p1,.string s1,.slice b m capb,.int .i64 tc1,.int .i64 tn1,.bool on1] 44);refine (HS.out _ hw2).mono ?_;rintro e w1 ⟨rfl,hb1⟩;have hB:=hw2.trans (hb1.mono hw2.size);have d6:w1.cell? ⟨w.heap.size,6,none⟩=some (.int .i64 tc1):=(hb1.cell (p:=⟨w.heap.size,6,none⟩) (by simp;omega)).trans (World.cell?_alloc2_first ..);have f6:w1.cell? ⟨w.heap.size+1,6,none⟩=some (.int .i64 tc1):=(hb1.cell (p:=⟨w.heap.size+1,6,none⟩) (by simp)).trans (World.cell?_alloc2_new ..);have d7:w1.cell? ⟨w.heap.size,7,none⟩=some (.int .i64 tn1):=(hb1.cell (p:=⟨w.heap.size,7,none⟩) (by simp;omega)).trans (World.cell?_alloc2_first ..);have f7:w1.cell? ⟨w.heap.size+1,7,none⟩=some (.int .i64 tn1):=(hb1.cell (p:=⟨w.heap.size+1,7,none⟩) (by simp)).trans (World.cell?_alloc2_new ..);have d8:w1.cell? ⟨w.heap.size,8,none⟩=some (.bool on1):=(hb1.cell (p:=⟨w.heap.size,8,none⟩) (by simp;omega)).trans (World.cell?_alloc2_first ..);have f8:w1.cell? ⟨w.heap.size+1,8,none⟩=some (.bool on1):=(hb1.cell (p:=⟨w.heap.size+1,8,none⟩) (by simp)).trans (World.cell?_alloc2_new ..);clear hw2 hb1 HS;go_wp2_with fail;go_ret;exact ⟨rfl,hB⟩
         ·rw [decide_eq_false (by simp [e8])] at hr;subst hr;have t1:(on1==on2)=false:=nB e8;clear e8;go_enter Tryz.func39,Tryz.ntmps39;go_wp2_with fail;have hw2:=((bE w.heap.size w).alloc (lR _) (Obj.cells #[.int .i64 c1,.int .i64 n1,.int .i64 k1,.int .i64 p1,.string s1,.slice a n cap,.int .i64 tc1,.int .i64 tn1,.bool on1] 44)).alloc (by simp) (Obj.cells #[.int .i64 c1,.int .i64 n1,.int .i64 k1,.int .i64 p1,.string s1,.slice b m capb,.int .i64 tc1,.int .i64 tn1,.bool on2] 44);refine (HS.out _ hw2).mono ?_;rintro e w1 ⟨rfl,hb1⟩;have hB:=hw2.trans (hb1.mono hw2.size);have d6:w1.cell? ⟨w.heap.size,6,none⟩=some (.int .i64 tc1):=(hb1.cell (p:=⟨w.heap.size,6,none⟩) (by simp;omega)).trans (World.cell?_alloc2_first ..);have f6:w1.cell? ⟨w.heap.size+1,6,none⟩=some (.int .i64 tc1):=(hb1.cell (p:=⟨w.heap.size+1,6,none⟩) (by simp)).trans (World.cell?_alloc2_new ..);have d7:w1.cell? ⟨w.heap.size,7,none⟩=some (.int .i64 tn1):=(hb1.cell (p:=⟨w.heap.size,7,none⟩) (by simp;omega)).trans (World.cell?_alloc2_first ..);have f7:w1.cell? ⟨w.heap.size+1,7,none⟩=some (.int .i64 tn1):=(hb1.cell (p:=⟨w.heap.size+1,7,none⟩) (by simp)).trans (World.cell?_alloc2_new ..);have d8:w1.cell? ⟨w.heap.size,8,none⟩=some (.bool on1):=(hb1.cell (p:=⟨w.heap.size,8,none⟩) (by simp;omega)).trans (World.cell?_alloc2_first ..);have f8:w1.cell? ⟨w.heap.size+1,8,none⟩=some (.bool on2):=(hb1.cell (p:=⟨w.heap.size+1,8,none⟩) (by simp)).trans (World.cell?_alloc2_new ..);clear hw2 hb1 HS;go_wp2_with fail;go_ret;exact ⟨rfl,hB⟩
        ·rw [decide_eq_false (by simp [e7])] at hr;subst hr;have t1:(tn1==tn2)=false:=nB e7;clear e7;go_enter Tryz.func39,Tryz.ntmps39;go_wp2_with fail;have hw2:=((bE w.heap.size w).alloc (lR _) (Obj.cells #[.int .i64 c1,.int .i64 n1,.int .i64 k1,.int .i64 p1,.string s1,.slice a n cap,.int .i64 tc1,.int .i64 tn1,.bool on1] 44)).alloc (by simp) (Obj.cells #[.int .i64 c1,.int .i64 n1,.int .i64 k1,.int .i64 p1,.string s1,.slice b m capb,.int .i64 tc1,.int .i64 tn2,.bool on2] 44);refine (HS.out _ hw2).mono ?_;rintro e w1 ⟨rfl,hb1⟩;have hB:=hw2.trans (hb1.mono hw2.size);have d6:w1.cell? ⟨w.heap.size,6,none⟩=some (.int .i64 tc1):=(hb1.cell (p:=⟨w.heap.size,6,none⟩) (by simp;omega)).trans (World.cell?_alloc2_first ..);have f6:w1.cell? ⟨w.heap.size+1,6,none⟩=some (.int .i64 tc1):=(hb1.cell (p:=⟨w.heap.size+1,6,none⟩) (by simp)).trans (World.cell?_alloc2_new ..);have d7:w1.cell? ⟨w.heap.size,7,none⟩=some (.int .i64 tn1):=(hb1.cell (p:=⟨w.heap.size,7,none⟩) (by simp;omega)).trans (World.cell?_alloc2_first ..);have f7:w1.cell? ⟨w.heap.size+1,7,none⟩=some (.int .i64 tn2):=(hb1.cell (p:=⟨w.heap.size+1,7,none⟩) (by simp)).trans (World.cell?_alloc2_new ..);have d8:w1.cell? ⟨w.heap.size,8,none⟩=some (.bool on1):=(hb1.cell (p:=⟨w.heap.size,8,none⟩) (by simp;omega)).trans (World.cell?_alloc2_first ..);have f8:w1.cell? ⟨w.heap.size+1,8,none⟩=some (.bool on2):=(hb1.cell (p:=⟨w.heap.size+1,8,none⟩) (by simp)).trans (World.cell?_alloc2_new ..);clear hw2 hb1 HS;go_wp2_with fail;go_ret;exact ⟨rfl,hB⟩
       ·rw [decide_eq_false (by simp [e6])] at hr;subst hr;have t1:(tc1==tc2)=false:=nB e6;clear e6;go_enter Tryz.func39,Tryz.ntmps39;go_wp2_with fail;have hw2:=((bE w.heap.size w).alloc (lR _) (Obj.cells #[.int .i64 c1,.int .i64 n1,.int .i64 k1,.int .i64 p1,.string s1,.slice a n cap,.int .i64 tc1,.int .i64 tn1,.bool on1] 44)).alloc (by simp) (Obj.cells #[.int .i64 c1,.int .i64 n1,.int .i64 k1,.int .i64 p1,.string s1,.slice b m capb,.int .i64 tc2,.int .i64 tn2,.bool on2] 44);refine (HS.out _ hw2).mono ?_;rintro e w1 ⟨rfl,hb1⟩;have hB:=hw2.trans (hb1.mono hw2.size);have d6:w1.cell? ⟨w.heap.size,6,none⟩=some (.int .i64 tc1):=(hb1.cell (p:=⟨w.heap.size,6,none⟩) (by simp;omega)).trans (World.cell?_alloc2_first ..);have f6:w1.cell? ⟨w.heap.size+1,6,none⟩=some (.int .i64 tc2):=(hb1.cell (p:=⟨w.heap.size+1,6,none⟩) (by simp)).trans (World.cell?_alloc2_new ..);have d7:w1.cell? ⟨w.heap.size,7,none⟩=some (.int .i64 tn1):=(hb1.cell (p:=⟨w.heap.size,7,none⟩) (by simp;omega)).trans (World.cell?_alloc2_first ..);have f7:w1.cell? ⟨w.heap.size+1,7,none⟩=some (.int .i64 tn2):=(hb1.cell (p:=⟨w.heap.size+1,7,none⟩) (by simp)).trans (World.cell?_alloc2_new ..);have d8:w1.cell? ⟨w.heap.size,8,none⟩=some (.bool on1):=(hb1.cell (p:=⟨w.heap.size,8,none⟩) (by simp;omega)).trans (World.cell?_alloc2_first ..);have f8:w1.cell? ⟨w.heap.size+1,8,none⟩=some (.bool on2):=(hb1.cell (p:=⟨w.heap.size+1,8,none⟩) (by simp)).trans (World.cell?_alloc2_new ..);clear hw2 hb1 HS;go_wp2_with fail;go_ret;exact ⟨rfl,hB⟩
      ·rw [decide_eq_false (by simp [e5])] at hr;subst hr;have t1:decide (l1=l2)=false:=decide_eq_false e5;rw [t1] at HS;clear e5;go_enter Tryz.func39,Tryz.ntmps39;go_wp2_with fail;have hw2:=((bE w.heap.size w).alloc (lR _) (Obj.cells #[.int .i64 c1,.int .i64 n1,.int .i64 k1,.int .i64 p1,.string s1,.slice a n cap,.int .i64 tc1,.int .i64 tn1,.bool on1] 44)).alloc (by simp) (Obj.cells #[.int .i64 c1,.int .i64 n1,.int .i64 k1,.int .i64 p1,.string s1,.slice b m capb,.int .i64 tc2,.int .i64 tn2,.bool on2] 44);refine (HS.out _ hw2).mono ?_;rintro e w1 ⟨rfl,hb1⟩;have hB:=hw2.trans (hb1.mono hw2.size);have d6:w1.cell? ⟨w.heap.size,6,none⟩=some (.int .i64 tc1):=(hb1.cell (p:=⟨w.heap.size,6,none⟩) (by simp;omega)).trans (World.cell?_alloc2_first ..);have f6:w1.cell? ⟨w.heap.size+1,6,none⟩=some (.int .i64 tc2):=(hb1.cell (p:=⟨w.heap.size+1,6,none⟩) (by simp)).trans (World.cell?_alloc2_new ..);have d7:w1.cell? ⟨w.heap.size,7,none⟩=some (.int .i64 tn1):=(hb1.cell (p:=⟨w.heap.size,7,none⟩) (by simp;omega)).trans (World.cell?_alloc2_first ..);have f7:w1.cell? ⟨w.heap.size+1,7,none⟩=some (.int .i64 tn2):=(hb1.cell (p:=⟨w.heap.size+1,7,none⟩) (by simp)).trans (World.cell?_alloc2_new ..);have d8:w1.cell? ⟨w.heap.size,8,none⟩=some (.bool on1):=(hb1.cell (p:=⟨w.heap.size,8,none⟩) (by simp;omega)).trans (World.cell?_alloc2_first ..);have f8:w1.cell? ⟨w.heap.size+1,8,none⟩=some (.bool on2):=(hb1.cell (p:=⟨w.heap.size+1,8,none⟩) (by simp)).trans (World.cell?_alloc2_new ..);clear hw2 hb1 HS;go_wp2_with fail;go_ret;exact ⟨rfl,hB⟩
     ·rw [decide_eq_false (by simp [e4])] at hr;subst hr;have t1:(s1.toList==s2.toList)=false:=nB (fun e=>e4 (toList_inj e));clear e4;go_enter Tryz.func39,Tryz.ntmps39;go_wp2_with fail;go_ret;exact ⟨rfl,((bE _ _).alloc (lR _) _).alloc (by simp) _⟩
    ·rw [decide_eq_false (by simp [e3])] at hr;subst hr;have t1:(p1==p2)=false:=nB e3;clear e3;go_enter Tryz.func39,Tryz.ntmps39;go_wp2_with fail;go_ret;exact ⟨rfl,((bE _ _).alloc (lR _) _).alloc (by simp) _⟩
   ·rw [decide_eq_false (by simp [e2])] at hr;subst hr;have t1:(k1==k2)=false:=nB e2;clear e2;go_enter Tryz.func39,Tryz.ntmps39;go_wp2_with fail;go_ret;exact ⟨rfl,((bE _ _).alloc (lR _) _).alloc (by simp) _⟩
  ·rw [decide_eq_false (by simp [e1])] at hr;subst hr;have t1:(n1==n2)=false:=nB e1;clear e1;go_enter Tryz.func39,Tryz.ntmps39;go_wp2_with fail;go_ret;exact ⟨rfl,((bE _ _).alloc (lR _) _).alloc (by simp) _⟩
 ·rw [decide_eq_false (by simp [e0])] at hr;subst hr;have t1:(c1==c2)=false:=nB e0;clear e0;go_enter Tryz.func39,Tryz.ntmps39;go_wp2_with fail;go_ret;exact ⟨rfl,((bE _ _).alloc (lR _) _).alloc (by simp) _⟩
end Go.Proofs.YtijpfbcippijoaaGreatDoor
