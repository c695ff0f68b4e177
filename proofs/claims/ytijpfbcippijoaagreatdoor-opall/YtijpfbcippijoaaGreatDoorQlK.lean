import Derived.Test.YtijpfbcippijoaaGreatDoorGr135
set_option maxRecDepth 100000
namespace Go.Proofs.YtijpfbcippijoaaGreatDoor
open Go.RowKit Go.Lib Sp
theorem spanN_hit {c:UInt8} (b:List UInt8):∀ {a:List UInt8},c ∉ a→spanN c (a++c::b)=a.length
 | [],_=>by simp [spanN]
 | x::r,h=>by
  have h1:¬ x=c:=fun e=>h (by simp [e])
  have h2:c ∉ r:=fun e=>h (by simp [e])
  rw [List.cons_append,spanN,if_neg h1,spanN_hit b h2,List.length_cons];omega
theorem spanN_miss {c:UInt8}:∀ {a:List UInt8},c ∉ a→spanN c a=a.length
 | [],_=>rfl
 | x::r,h=>by
  have h1:¬ x=c:=fun e=>h (by simp [e])
  have h2:c ∉ r:=fun e=>h (by simp [e])
  rw [spanN,if_neg h1,spanN_miss h2,List.length_cons];omega
theorem pairG_hit {c:UInt8} {a b:List UInt8} (h:c ∉ a):pairG c (a++c::b)=(numG a,numG b):=by
 unfold pairG;rw [spanN_hit b h,if_neg (by simp),List.take_left,show a++c::b=(a++[c])++b from by simp,List.drop_left' (by simp)]
theorem wordG_hit {c:UInt8} {a b:List UInt8} (h:c ∉ a):wordG c (a++c::b) 0=(a,a.length):=by
 unfold wordG;rw [if_neg (by omega),List.drop_zero,spanN_hit b h,List.take_left,Nat.zero_add]
theorem wordG_miss {c:UInt8} {a:List UInt8} (h:c ∉ a):wordG c a 0=(a,a.length):=by
 unfold wordG;rw [if_neg (by omega),List.drop_zero,spanN_miss h,List.take_length,Nat.zero_add]
theorem wordG_at {c:UInt8} (p l:List UInt8):wordG c (p++l) p.length=((wordG c l 0).1,p.length+(wordG c l 0).2):=by
 unfold wordG;rw [if_neg (by simp),if_neg (by omega),List.drop_left,List.drop_zero];simp
theorem numGF_append (r:List UInt8):∀ (l:List UInt8) (n:Int),(∀ x∈l,48≤x.toNat∧x.toNat≤57)→numGF (l++r) n=numGF r (numGF l n)
 | [],_,_=>rfl
 | b::l,n,h=>by
  have h1:=h b (by simp);rw [List.cons_append,numGF,if_neg (by omega),numGF_append r l _ (fun x hx=>h x (by simp [hx])),numGF,if_neg (by omega)]
theorem digB_nat (d:Nat) (h:d<10):(digB d).toNat=48+d:=by
 unfold digB;have:d=0∨d=1∨d=2∨d=3∨d=4∨d=5∨d=6∨d=7∨d=8∨d=9:=by omega
 rcases this with rfl|rfl|rfl|rfl|rfl|rfl|rfl|rfl|rfl|rfl<;>rfl
theorem dec_num (u:Nat):(∀ x∈Lib.decDigits u,48≤x.toNat∧x.toNat≤57)∧numGF (Lib.decDigits u) 0=(u:Int):=by
 induction u using Nat.strongRecOn with
 | ind u ih =>
  have hd:=digB_nat (u % 10) (by omega);rw [dec_split u];by_cases h:10≤u
  ·obtain ⟨i1,i2⟩:=ih (u / 10) (by omega);rw [if_pos h];refine ⟨fun x hx=>?_,?_⟩
   ·rcases List.mem_append.1 hx with h1|h1
    ·exact i1 x h1
    ·obtain rfl:=List.mem_singleton.1 h1;omega
   ·rw [numGF_append _ _ _ i1,i2,numGF,numGF,if_neg (by omega),hd];omega
  ·rw [if_neg h,List.nil_append];refine ⟨fun x hx=>?_,?_⟩
   ·obtain rfl:=List.mem_singleton.1 hx;omega
   ·rw [numGF,numGF,if_neg (by omega),hd];omega
theorem dec_len:∀ (k u:Nat),u<10 ^ (k+1)→1≤(Lib.decDigits u).length∧(Lib.decDigits u).length≤k+1
 | 0,u,h=>by
  rw [dec_split u,if_neg (by omega)];simp
 | k+1,u,h=>by
  rw [dec_split u];by_cases h1:10≤u
  ·have:=dec_len k (u / 10) (by rw [Nat.pow_succ] at h;omega);rw [if_pos h1,List.length_append,List.length_singleton];omega
  ·rw [if_neg h1];simp
theorem numG_dec (u:Nat) (h:u≤1048576):numG (Lib.decDigits u)=(u:Int):=by
 have h1:=dec_len 6 u (by omega);unfold numG;rw [if_neg (by omega),(dec_num u).2]
theorem dec_not (u:Nat) (c:UInt8) (hc:c.toNat<48∨57<c.toNat):c ∉ Lib.decDigits u:=fun h=>by have:=(dec_num u).1 c h;omega
theorem idG_idB (c n:Nat) (hc:c≤1048576) (hn:n≤1048576):idG (idB (c:Int) (n:Int))=((c:Int),(n:Int)):=by
 by_cases h:(c:Int)=0∧(n:Int)=0
 ·obtain ⟨rfl,rfl⟩:c=0∧n=0:=by omega
  rw [show ((0:Nat):Int)=0 from rfl,idB_no];rfl
 ·have hd:(46:UInt8) ∉ Lib.decDigits c:=dec_not c 46 (by decide);have hp:=pairG_hit (b:=Lib.decDigits n) hd;rw [numG_dec c hc,numG_dec n hn] at hp;rw [idB_yes h];unfold idG;rw [List.append_assoc,List.singleton_append,if_neg ?_,hp];intro e;have hl:=dec_len 6 c (by omega);have hl2:=dec_len 6 n (by omega);have:=congrArg List.length e;simp at this;omega
end Go.Proofs.YtijpfbcippijoaaGreatDoor
