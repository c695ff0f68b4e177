import Derived.Test.YtijpfbcippijoaaGreatDoorAl
import Derived.Test.YtijpfbcippijoaaGreatDoorGr125
import Derived.Test.YtijpfbcippijoaaGreatDoorGr111
import Derived.Test.YtijpfbcippijoaaGreatDoorOpZ
import Derived.Test.YtijpfbcippijoaaGreatDoorGr126
import Derived.Test.YtijpfbcippijoaaGreatDoorGr138
import Derived.Test.YtijpfbcippijoaaGreatDoorGr121
set_option maxHeartbeats 4000000
set_option maxRecDepth 100000
namespace Go.Proofs.YtijpfbcippijoaaGreatDoor
open Go.RowKit Go.Lib Sp
def Taken (l:List UInt8):Prop:=ownP (readP l)=0∧printP (readP l)=l
theorem rdL_le:∀ (f:Nat) (acc l:List UInt8) (n:Nat) (x:List UInt8) (m:Nat),rdL f acc l n=some (x,m)→m≤n+l.length∧x.length≤acc.length+4*l.length
 | 0,acc,l,n,x,m,h=>by simp [rdL] at h
 | f+1,acc,l,n,x,m,h=>by
  rw [rdL] at h;split at h
  ·simp at h
  ·rename_i h0
   have hl:1≤l.length:=by
    cases l with
    | nil=>exact absurd rfl h0
    | cons a t=>simp
   split at h
   ·simp only [Option.some.injEq,Prod.mk.injEq] at h;obtain ⟨rfl,rfl⟩:=h;omega
   ·split at h
    ·split at h
     ·simp at h
     ·have h1:=rdL_le f _ _ _ _ _ h;have h2:=escL_len l;rw [List.length_drop,List.length_append] at h1;omega
    ·have h1:=rdL_le f _ _ _ _ _ h;rw [List.length_drop,List.length_append,List.length_singleton] at h1;omega
theorem readL_le {l x:List UInt8} {n:Nat} (h:readL l=some (x,n)):n≤l.length∧x.length≤4*l.length:=by
 unfold readL at h;split at h
 ·rename_i h0
  have h1:=rdL_le _ _ _ _ _ _ h;rw [List.length_drop] at h1;have h2:=congrArg List.length h0;rw [List.length_take,List.length_singleton] at h2;rw [List.length_nil] at h1;omega
 ·simp at h
theorem unqL_len (l:List UInt8):(unqL l).1.length≤4*l.length:=by
 unfold unqL;cases h:readL l with
 | none=>simp
 | some p =>
  obtain ⟨x,n⟩:=p;simp only;split
  ·exact (readL_le h).2
  ·simp
theorem readP_size (l:List UInt8):(readP l).s.size≤4*l.length:=by
 unfold readP readW;have h1:=(cut1_le l 32).2;have h2:=(cut1_le (cut1 l 32).2.1 32).2;split
 ·have h3:=(cut1_le (cut1 (cut1 l 32).2.1 32).2.1 32).2;have h4:=unqL_len (cut1 (cut1 (cut1 l 32).2.1 32).2.1 32).2.1;simp only [bs_size];omega
 all_goals
  repeat' split
  all_goals exact Nat.zero_le _
theorem parse_yes (l:List UInt8) (hl:l.length≤1048576) (hT:Taken l) (w:World) (hw:Bar w) (hp:Pow w) (hd:Deb w) (he:Errs w) :
  Calls Tryz.prog 44 #[.string (bs l)] w fun e w'=>∃ a m cap,e=.returned (.tuple #[opVal (readP l) (.slice a m cap),.int .i64 0])∧Rng w' a m cap (readP l).l∧(∀ g off,a=some ⟨g,off,none⟩→w.heap.size≤g)∧Below w.heap.size w w':=by
 have hsz:=readP_size l;have HL:Hid (∀ w':World,Below w.heap.size w w'→Calls Tryz.prog 82 #[.string (bs l)] w' fun e w''=>∃ a m cap,e=.returned (opVal (readP l) (.slice a m cap))∧Rng w'' a m cap (readP l).l∧(∀ g off,a=some ⟨g,off,none⟩→w'.heap.size≤g)∧Below w'.heap.size w' w''):=fun w' hb=>readLine_any l (by omega) w' (he.below hb) (hd.below hb)
 have HP:Hid (∀ (w':World) (a:Option Addr) (m cap:Nat),Below w.heap.size w w'→Rng w' a m cap (readP l).l→Calls Tryz.prog 20 #[opVal (readP l) (.slice a m cap)] w' fun e w''=>e=.returned (.tuple #[.string (bs l),.int .i64 0])∧Below w'.heap.size w' w''):=fun w' a m cap hb hR=>by
  have:=print_right hR hT.1 (by omega) (hw.below hb) (hp.below hb) (hd.below hb);rw [hT.2] at this;exact this
 clear hT hw hp hd he hsz hl;generalize readP l=o at *;generalize bs l=S at *;obtain ⟨c,n,k,p,s,L,tc,tn,on⟩:=o;simp only [opVal] at *;have hw2:=(bE w.heap.size w).alloc (lR _) (Obj.cells #[.int .i64 0,.int .i64 0,.int .i64 0,.int .i64 0,.string ⟨#[]⟩,.slice none 0 0,.int .i64 0,.int .i64 0,.bool false] 44);go_enter Tryz.func44,Tryz.ntmps44;go_wp2_with fail;refine (HL.out _ hw2).mono ?_;rintro e w1 ⟨a,m,cap,rfl,hR,hAt,hb1⟩;have hB1:=hw2.trans (hb1.mono hw2.size);have x1:=(hb1.block w.heap.size (by simp)).trans (alloc_last _ _ _ rfl);have hRb:Hid (∀ g off,a=some ⟨g,off,none⟩→0<m→g≠w.heap.size):=fun g off ha _=>by have h1:=hAt g off ha;simp at h1;omega
 have HAt:Hid (∀ g off,a=some ⟨g,off,none⟩→w.heap.size≤g):=fun g off ha=>by have h1:=hAt g off ha;simp at h1;omega
 clear hw2 hb1 hAt;go_wp2_with fail;have hB2:=hB1.alloc hB1.size (Obj.cells #[.int .i64 c,.int .i64 n,.int .i64 k,.int .i64 p,.string s,.slice a m cap,.int .i64 tc,.int .i64 tn,.bool on] 44);have hR2:=hR.below ((bE w1.heap.size w1).alloc (lR _) (Obj.cells #[.int .i64 c,.int .i64 n,.int .i64 k,.int .i64 p,.string s,.slice a m cap,.int .i64 tc,.int .i64 tn,.bool on] 44));have x2:=(Below.heap_alloc w1 (Obj.cells #[.int .i64 c,.int .i64 n,.int .i64 k,.int .i64 p,.string s,.slice a m cap,.int .i64 tc,.int .i64 tn,.bool on] 44) _ (gA x1)).trans x1;have y2:(w1.alloc (Obj.cells #[.int .i64 c,.int .i64 n,.int .i64 k,.int .i64 p,.string s,.slice a m cap,.int .i64 tc,.int .i64 tn,.bool on] 44)).heap[w1.heap.size]?=some (Obj.cells #[.int .i64 c,.int .i64 n,.int .i64 k,.int .i64 p,.string s,.slice a m cap,.int .i64 tc,.int .i64 tn,.bool on] 44):=alloc_last _ _ _ rfl;refine (HP.out _ _ _ _ hB2 hR2).mono ?_;rintro e w3 ⟨rfl,hb3⟩;have hB3:=hB2.trans (hb3.mono hB2.size);have hR3:=hR2.below hb3;have x3:=(hb3.block _ (gA x2)).trans x2;have y3:=(hb3.block _ (gA y2)).trans y2;clear hb3 hB2 hR2 x2 y2 hB1 hR x1;obtain ⟨f0,f1,f2,f3,f4,f5,f6,f7,f8⟩:=cl9 y3;obtain ⟨⟨d0,d1,d2,d3,d4,d5,d6,d7,d8⟩,z10,z11,z12,z13,z14,z15,z16,z17,z18⟩:=cf9 x3;have hx9:=set9g (v0:=.int .i64 c) (v1:=.int .i64 n) (v2:=.int .i64 k) (v3:=.int .i64 p) (v4:=.string s) (v5:=.slice a m cap) (v6:=.int .i64 tc) (v7:=.int .i64 tn) (v8:=.bool on) x3;have hq8:=q9 hB3 (b:=w.heap.size) (lR _) (.int .i64 c) (.int .i64 n) (.int .i64 k) (.int .i64 p) (.string s) (.slice a m cap) (.int .i64 tc) (.int .i64 tn) (.bool on);obtain ⟨w9,hw9⟩:=exW hx9;have hRg:Rng w9 a m cap L:=by
  rw [← hw9];refine rng_set ?_ _ _ _ hRb.out;refine rng_set ?_ _ _ _ hRb.out;refine rng_set ?_ _ _ _ hRb.out;refine rng_set ?_ _ _ _ hRb.out;refine rng_set ?_ _ _ _ hRb.out;refine rng_set ?_ _ _ _ hRb.out;refine rng_set ?_ _ _ _ hRb.out;refine rng_set ?_ _ _ _ hRb.out;refine rng_set ?_ _ _ _ hRb.out;exact hR3
 rw [hw9] at hx9 hq8;obtain ⟨r0,r1,r2,r3,r4,r5,r6,r7,r8⟩:=cl9 hx9;clear x3 y3 hR3 hB3;go_wp2_with fail
 try rw [hw9]
 refine bodyPost_ret (v:=.tuple #[.agg #[.int .i64 c,.int .i64 n,.int .i64 k,.int .i64 p,.string s,.slice a m cap,.int .i64 tc,.int .i64 tn,.bool on],.int .i64 0]) (by simp [results,Tryz.results44,go_sem,r0,r1,r2,r3,r4,r5,r6,r7,r8]) rfl ⟨a,m,cap,rfl,hRg,HAt.out,hq8⟩
end Go.Proofs.YtijpfbcippijoaaGreatDoor
namespace Go.Proofs.YtijpfbcippijoaaGreatDoor
theorem brk_one (l:List UInt8) (h0:l≠[]) (h:brkL l=true):(dec l).2=1∧128≤at0 l 0:=by
 have k0:=at0_lt l 0;have k1:=at0_lt l 1;have k2:=at0_lt l 2;have k3:=at0_lt l 3;unfold brkL at h;by_cases h1:(dec l).1=65533
 ·rw [if_pos h1] at h;unfold dec at h1 ⊢;unfold decN at h1 ⊢;by_cases a:at0 l 0<0x80
  ·rw [if_pos a] at h1;simp at h1;omega
  rw [if_neg a] at h1 ⊢;refine ⟨?_,by omega⟩;split at h1
  ·rename_i b
   rw [if_pos b];split at h1
   ·simp at h1;omega
   ·rename_i c;rw [if_neg c]
  ·rename_i b
   rw [if_neg b];split at h1
   ·rename_i c
    rw [if_pos c];split at h1
    ·simp at h1;exfalso
     match l,h0 with
     | [b0],_=>simp at c
     | [b0,b1],_=>simp at c
     | b0::b1::b2::u,_ =>
      have q0:at0 (b0::b1::b2::u) 0=b0.toNat:=rfl;have q1:at0 (b0::b1::b2::u) 1=b1.toNat:=rfl;have q2:at0 (b0::b1::b2::u) 2=b2.toNat:=rfl;have e0:b0=239:=(ofNat_of_toNat b0 239 (by omega)).symm;have e1:b1=191:=(ofNat_of_toNat b1 191 (by omega)).symm;have e2:b2=189:=(ofNat_of_toNat b2 189 (by omega)).symm;subst e0 e1 e2;simp at h
    ·rename_i d;rw [if_neg d]
   ·rename_i c
    rw [if_neg c];split at h1
    ·rename_i d
     rw [if_pos d];split at h1
     ·simp at h1;omega
     ·rename_i g;rw [if_neg g]
    ·rename_i d;rw [if_neg d]
 ·rw [if_neg h1] at h;exact absurd h (by decide)
end Go.Proofs.YtijpfbcippijoaaGreatDoor
namespace Go.Proofs.YtijpfbcippijoaaGreatDoor
open Go.RowKit Go.Lib
theorem hexV_hexd (d:Nat) (h:d<16):hexV (hexd d).toNat=some d:=by
 have:∀ m:Fin 16,hexV (hexd m.val).toNat=some m.val:=by decide
 exact this ⟨d,h⟩
theorem hexd_ne (d:Nat) (h:d<16):hexd d≠125∧hexd d≠34:=by
 have:∀ m:Fin 16,hexd m.val≠125∧hexd m.val≠34:=by decide
 exact this ⟨d,h⟩
theorem pu_hexN (mx u:Nat) (hu:u≤mx):∀ j,pu mx (u / 16 ^ j) (hexN u j)=some u
 | 0=>by simp [hexN,pu]
 | j+1=>by
  rw [hexN,pu,hexV_hexd _ (Nat.mod_lt _ (by decide))];have e:16*(u / 16 ^ (j+1))+u / 16 ^ j % 16=u / 16 ^ j:=by
   rw [Nat.pow_succ,← Nat.div_div_eq_div_mul];omega
  simp only [e];rw [if_pos (Nat.le_trans (Nat.div_le_self _ _) hu)];exact pu_hexN mx u hu j
theorem ndig_zero (u:Nat) (hu:u≤1114111):u / 16 ^ ndig u=0:=by
 unfold ndig
 (repeat' split)<;>simp<;>omega
theorem pu_hexL (mx u:Nat) (hu:u≤mx) (h2:u≤1114111):pu mx 0 (hexL u)=some u:=by
 have:=pu_hexN mx u hu (ndig u);rw [ndig_zero u h2] at this;exact this
theorem hexN_mem (u:Nat):∀ j c,c∈hexN u j→c≠125∧c≠34
 | 0,c,h=>by simp [hexN] at h
 | j+1,c,h=>by
  rw [hexN] at h;cases List.mem_cons.1 h with
  | inl e=>subst e;exact hexd_ne _ (Nat.mod_lt _ (by decide))
  | inr e=>exact hexN_mem u j c e
theorem index_close (l t:List UInt8) (h:∀ c∈l,c≠125):Lib.indexByte (l++125::t) 125=l.length:=by
 induction l with
 | nil=>rfl
 | cons b l ih =>
  have h1:(b==125)=false:=nB (h b (List.mem_cons_self ..));have h2:=ih (fun c hc=>h c (List.mem_cons_of_mem _ hc));rw [List.cons_append,Lib.indexByte,h1,h2];have h3:(((l.length:Nat):Int)==-1)=false:=nB (by omega);rw [h3];simp
theorem ndig_pos (u:Nat):1≤ndig u:=by unfold ndig;(repeat' split)<;>omega
theorem esc_rune (r:Nat) (h:r≤1114111) (hv:okV (r:Int)=true) (t:List UInt8):escL ([92,117,123]++hexL r++[125]++t)=(encB r,([92,117,123]++hexL r++[125]).length):=by
 have hl:[92,117,123]++hexL r++[125]++t=([92,117,123]++hexL r)++125::t:=by simp
 have hi:Lib.indexByte ([92,117,123]++hexL r++[125]++t) 125=((3+(hexL r).length:Nat):Int):=by
  rw [hl,index_close]
  ·simp;omega
  ·intro c hc;rcases List.mem_append.1 hc with h1|h1
   ·simp at h1;rcases h1 with rfl|rfl|rfl<;>decide
   ·exact (hexN_mem r _ c h1).1
 have hlen:1≤(hexL r).length:=by unfold hexL;rw [hexN_length];exact ndig_pos r
 have e1:at0 ([92,117,123]++hexL r++[125]++t) 1=117:=rfl;unfold escL;rw [if_neg (by simp),e1,if_neg (by decide),if_neg (by decide),if_neg (by decide),if_neg (by decide),if_neg (by decide),if_pos rfl];unfold runeL2;rw [hi,if_neg (by omega),if_neg (by simp),if_neg (by omega)];have e2:((3+(hexL r).length:Nat):Int).toNat=3+(hexL r).length:=by omega
 have e3:(([92,117,123]++hexL r++[125]++t).take (3+(hexL r).length)).drop 3=hexL r:=by
  rw [hl,List.take_append_of_le_length (by simp;omega),List.take_of_length_le (by simp;omega)];rfl
 rw [e2,e3,pu_hexL _ _ (by omega) h];simp only;rw [if_pos hv];simp;omega
theorem esc_byte (b:Nat) (h1:16≤b) (h2:b≤255) (t:List UInt8):escL ([92,120]++hexL b++t)=([UInt8.ofNat b],([92,120]++hexL b).length):=by
 have hn:hexL b=[hexd (b / 16 % 16),hexd (b % 16)]:=by
  have:ndig b=2:=by unfold ndig;rw [if_neg (by omega),if_pos (by omega)]
  unfold hexL;rw [this];simp [hexN]
 have hp:=pu_hexL 255 b h2 (by omega);rw [hn] at hp ⊢;have e1:at0 ([92,120]++[hexd (b / 16 % 16),hexd (b % 16)]++t) 1=120:=rfl;unfold escL;rw [if_neg (by simp),e1,if_neg (by decide),if_neg (by decide),if_neg (by decide),if_neg (by decide),if_pos rfl];unfold byteL2;rw [if_neg (by simp)];have e3:(([92,120]++[hexd (b / 16 % 16),hexd (b % 16)]++t).take 4).drop 2=[hexd (b / 16 % 16),hexd (b % 16)]:=rfl;rw [e3,hp];rfl
theorem okV_valid {r:Nat} (h:Utf8.valid (r:Int)=true):okV (r:Int)=true:=by
 have:=valid_le h;unfold okV;exact decide_eq_true (by omega)
theorem rd_esc (p t bs:List UInt8) (g:Nat) (acc:List UInt8) (n:Nat) (h0:at0 (p++t) 0=92) (hp:1≤p.length) (he:escL (p++t)=(bs,p.length)):rdL (g+1) acc (p++t) n=rdL g (acc++bs) t (n+p.length):=by
 have hne:p++t≠[]:=by
  intro e;have:=congrArg List.length e;rw [List.length_append,List.length_nil] at this;omega
 rw [rdL,if_neg hne,h0,if_neg (by decide),if_pos rfl,he];simp only;rw [if_neg (by omega),List.drop_left]
theorem piece_read (l:List UInt8) (h0:l≠[]) (g:Nat) (acc t:List UInt8) (n:Nat):rdL (g+1) acc (pieceL l++t) n=rdL g (acc++l.take (dec l).2) t (n+(pieceL l).length):=by
 cases hb:brkL l with
 | true =>
  have h1:=brk_one l h0 hb;have h2:=at0_lt l 0;have hp:pieceL l=[92,120]++hexL (at0 l 0):=by unfold pieceL;rw [if_pos hb]
  have ht:l.take (dec l).2=[UInt8.ofNat (at0 l 0)]:=by
   rw [h1.1];cases l with
   | nil=>exact absurd rfl h0
   | cons b u=>simp [at0]
  rw [hp,ht];exact rd_esc _ t _ g acc n rfl (by simp) (esc_byte _ (by omega) (by omega) t)
 | false =>
  obtain ⟨hv,hw,rest,hl⟩:=enc_dec l h0 hb;have hp:pieceL l=qR (dec l).1:=by unfold pieceL;rw [if_neg (by rw [hb];decide)]
  have ht:l.take (dec l).2=encB (dec l).1:=by
   rw [hw];generalize encB (dec l).1=e at *;rw [hl,List.take_left]
  have hle:=(valid_le hv).2.1;rw [hp,ht];generalize (dec l).1=r at *;clear hl hw hp ht hb;by_cases k1:r=34
  ·subst k1;have e:encB ((34:Nat):Int)=[34]:=encB1 34 (by decide);rw [e];exact rd_esc [92,34] t [34] g acc n rfl (by decide) (by unfold escL;rw [if_neg (by simp),show at0 ([92,34]++t) 1=34 from rfl,if_pos rfl];rfl)
  by_cases k2:r=92
  ·subst k2;have e:encB ((92:Nat):Int)=[92]:=encB1 92 (by decide);rw [e];exact rd_esc [92,92] t [92] g acc n rfl (by decide) (by unfold escL;rw [if_neg (by simp),show at0 ([92,92]++t) 1=92 from rfl,if_neg (by decide),if_pos rfl];rfl)
  by_cases k3:r=10
  ·subst k3;have e:encB ((10:Nat):Int)=[10]:=encB1 10 (by decide);rw [e];exact rd_esc [92,110] t [10] g acc n rfl (by decide) (by unfold escL;rw [if_neg (by simp),show at0 ([92,110]++t) 1=110 from rfl,if_neg (by decide),if_neg (by decide),if_pos rfl];rfl)
  by_cases k4:r=9
  ·subst k4;have e:encB ((9:Nat):Int)=[9]:=encB1 9 (by decide);rw [e];exact rd_esc [92,116] t [9] g acc n rfl (by decide) (by unfold escL;rw [if_neg (by simp),show at0 ([92,116]++t) 1=116 from rfl,if_neg (by decide),if_neg (by decide),if_neg (by decide),if_pos rfl];rfl)
  by_cases k5:32≤r∧r≤126
  ·have hq:qR r=[UInt8.ofNat r]:=by
    unfold qR;rw [if_neg k1,if_neg k2,if_neg k3,if_neg k4,if_pos k5]
   rw [hq,encB1 r (by omega)];have ha:at0 ([UInt8.ofNat r]++t) 0=r:=by
    show (UInt8.ofNat r).toNat=r;exact ofNat_toNat r (by omega)
   rw [rdL,if_neg (by simp),ha,if_neg k1,if_neg k2];rfl
  ·have hq:qR r=[92,117,123]++hexL r++[125]:=by
    unfold qR;rw [if_neg k1,if_neg k2,if_neg k3,if_neg k4,if_neg k5]
   rw [hq];exact rd_esc _ t _ g acc n rfl (by simp) (esc_rune r (by omega) (okV_valid hv) t)
theorem rd_quo:∀ (f:Nat) (l:List UInt8),l.length≤f→∀ (g:Nat) (acc:List UInt8) (n:Nat) (rest:List UInt8),(quoL f l).length+1≤g→rdL g acc (quoL f l++34::rest) n=some (acc++l,n+(quoL f l).length+1)
 | f,[],_,g,acc,n,rest,hg=>by
  rw [quoL_end] at hg ⊢;obtain ⟨g,rfl⟩:∃ g',g=g'+1:=⟨g-1,by omega⟩;rw [rdL,if_neg (by simp),if_pos (by rfl)];simp
 | 0,b::t,h,_,_,_,_,_=>by simp at h
 | f+1,b::t,h,g,acc,n,rest,hg=>by
  have hne:b::t≠[]:=by simp
  rw [quoL_step f _ hne] at hg ⊢;have hpl:=pieceL_len (b::t);have hw:1≤(dec (b::t)).2:=by
   have:=width_pos ⟨(b::t).toArray⟩ 0;rw [decode_dec] at this;simpa using this
  rw [List.length_append] at hg ⊢;obtain ⟨g,rfl⟩:∃ g',g=g'+1:=⟨g-1,by omega⟩;rw [List.append_assoc,piece_read _ hne];have ih:=rd_quo f ((b::t).drop (dec (b::t)).2) (by rw [List.length_drop];simp at h ⊢;omega) g (acc++(b::t).take (dec (b::t)).2) (n+(pieceL (b::t)).length) rest (by omega);rw [ih,List.append_assoc,List.take_append_drop];simp only [Option.some.injEq,Prod.mk.injEq,true_and];omega
theorem read_quoted (x:ByteArray) (rest:List UInt8):readL (quoted x++rest)=some (x.data.toList,(quoted x).length):=by
 unfold readL quoted;rw [if_pos (by rfl)];have e:List.drop 1 ([34]++quoL x.size x.data.toList++[34]++rest)=quoL x.size x.data.toList++34::rest:=by simp
 rw [e,rd_quo x.size x.data.toList (by rw [← size_data];exact lR _) _ [] 1 rest (by simp)];simp;omega
end Go.Proofs.YtijpfbcippijoaaGreatDoor
namespace Go.Proofs.YtijpfbcippijoaaGreatDoor
open Go.RowKit Go.Lib Sp
theorem parseUint10_append (l k:List UInt8):∀ (acc v:Nat),Lib.parseUint10 acc l=.ok v→Lib.parseUint10 acc (l++k)=Lib.parseUint10 v k:=by
 induction l with
 | nil=>intro acc v h;simp only [Lib.parseUint10] at h;injection h with h;subst h;rfl
 | cons c r ih =>
  intro acc v h;simp only [Lib.parseUint10,List.cons_append] at h ⊢;split at h
  ·rename_i h1
   rw [if_pos h1];split at h
   ·cases h
   ·rename_i h2
    rw [if_neg h2];split at h
    ·cases h
    ·rename_i h3
     rw [if_neg h3];exact ih _ _ h
  ·cases h
theorem digit_toNat (u:Nat) (h:u<10):(UInt8.ofNat (48+u)).toNat=48+u:=by
 rw [UInt8.toNat_ofNat'];omega
theorem parse_one (acc u:Nat) (h:u<10) (ha:acc<1000000000000):Lib.parseUint10 acc [UInt8.ofNat (48+u)]=.ok (acc*10+u):=by
 simp only [Lib.parseUint10];rw [digit_toNat u h,if_pos (by omega),if_neg (by omega),if_neg (by omega)]
 congr 1
 omega
theorem parse_digits:∀ (u:Nat),u<1000000000000→Lib.parseUint10 0 (Lib.decDigits u)=.ok u:=by
 intro u
 induction u using Nat.strongRecOn with
 | ind u ih =>
  intro hu;rw [Lib.decDigits];split
  ·rename_i h
   rw [parse_one 0 u h (by omega)];simp
  ·rename_i h
   rw [parseUint10_append _ _ 0 (u / 10) (ih (u / 10) (by omega) (by omega)),parse_one (u / 10) (u % 10) (by omega) (by omega)]
   congr 1
   omega
theorem digits_are:∀ (u:Nat),Lib.decDigits u≠[]∧∀ x∈Lib.decDigits u,48≤x.toNat∧x.toNat≤57:=by
 intro u
 induction u using Nat.strongRecOn with
 | ind u ih =>
  rw [Lib.decDigits];split
  ·rename_i h
   refine ⟨by simp,fun x hx=>?_⟩;simp only [List.mem_singleton] at hx;subst hx;rw [digit_toNat u h];omega
  ·rename_i h
   refine ⟨by simp,fun x hx=>?_⟩;rcases List.mem_append.1 hx with hx|hx
   ·exact (ih (u / 10) (by omega)).2 x hx
   ·simp only [List.mem_singleton] at hx;subst hx;rw [digit_toNat (u % 10) (by omega)];omega
theorem itoa_digits {n:Int} (h:0≤n):Lib.itoa n=Lib.decDigits n.toNat:=by unfold Lib.itoa;rw [if_neg (by omega)]
theorem itoa_not {n:Int} (h:0≤n) (c:UInt8) (hc:c.toNat<48∨57<c.toNat):c ∉ Lib.itoa n:=fun hm=>by
 rw [itoa_digits h] at hm;have:=(digits_are n.toNat).2 c hm;omega
theorem numP_itoa {n:Int} (h:0≤n) (h1:n≤1048576):numP (Lib.itoa n)=n:=by
 rw [itoa_digits h];obtain ⟨hne,hd⟩:=digits_are n.toNat;have hp:=parse_digits n.toNat (by omega);unfold numP Lib.atoiAll;generalize Lib.decDigits n.toNat=l at *;cases l with
 | nil=>exact absurd rfl hne
 | cons c r =>
  have hc:=hd c (by simp);have e1:¬ (c.toNat=43∨c.toNat=45):=by omega
  simp only [if_neg e1];have e2:Lib.parseMag (c::r)=.ok n.toNat:=by unfold Lib.parseMag;rw [if_neg (by simp)];exact hp
  rw [e2];have e3:¬ c.toNat=45:=by omega
  simp only [e3];rw [if_neg (by omega),if_neg (by simp)];simp;omega
theorem index_hit (a b:List UInt8) (c:UInt8) (h:c ∉ a):Lib.indexByte (a++c::b) c=a.length:=by
 induction a with
 | nil=>simp [Lib.indexByte]
 | cons x t ih =>
  simp only [List.mem_cons,not_or] at h;have ht:=ih h.2;simp only [List.cons_append,Lib.indexByte];have e:(x==c)=false:=nB (fun e=>h.1 e.symm);rw [e,ht];simp only [Bool.false_eq_true,if_false,List.length_cons];rw [if_neg (by simp)];omega
theorem index_miss (a:List UInt8) (c:UInt8) (h:c ∉ a):Lib.indexByte a c=-1:=by
 induction a with
 | nil=>rfl
 | cons x t ih =>
  simp only [List.mem_cons,not_or] at h;have ht:=ih h.2;have e:(x==c)=false:=nB (fun e=>h.1 e.symm);simp [Lib.indexByte,e,ht]
theorem cut_hit {a b:List UInt8} {c:UInt8} (h:c ∉ a):cut1 (a++c::b) c=(a,b,true):=by
 unfold cut1;rw [index_hit a b c h,if_neg (by omega)];simp
theorem cut_miss {a:List UInt8} {c:UInt8} (h:c ∉ a):cut1 a c=(a,[],false):=by
 unfold cut1;rw [index_miss a c h,if_pos (by decide)]
theorem idP_idB {c n:Int} (h0:0≤c) (h1:c≤1048576) (h2:0≤n) (h3:n≤1048576):idP (idB c n)=(c,n):=by
 unfold idB;split
 ·rename_i h;rw [h.1,h.2];rfl
 ·have hne:Lib.itoa c++[46]++Lib.itoa n≠[45]:=fun e=>by
   have hl:=congrArg List.length e;have:=(digits_are c.toNat).1;rw [← itoa_digits h0] at this;have:=List.length_pos_iff.2 this;simp only [List.length_append,List.length_cons,List.length_nil] at hl;omega
  unfold idP;rw [if_neg hne,List.append_assoc,List.singleton_append,cut_hit (itoa_not h0 46 (by decide))];simp only [numP_itoa h0 h1,numP_itoa h2 h3]
theorem idB_not {c n:Int} (h0:0≤c) (h2:0≤n) (x:UInt8) (hx:x.toNat<45):x ∉ idB c n:=by
 unfold idB;split
 ·simp only [List.mem_singleton];intro e;have:=congrArg UInt8.toNat e;have e45:(45:UInt8).toNat=45:=rfl;omega
 ·intro hm;rcases List.mem_append.1 hm with hm|hm
  ·rcases List.mem_append.1 hm with hm|hm
   ·exact itoa_not h0 x (by omega) hm
   ·simp only [List.mem_singleton] at hm;have:=congrArg UInt8.toNat hm;have e46:(46:UInt8).toNat=46:=rfl;omega
  ·exact itoa_not h2 x (by omega) hm
theorem oneP_oneB {r:Int×Int} (h:0≤r.1∧r.1≤1048576∧0≤r.2∧r.2≤1048576):oneP (oneB r)=r:=by
 obtain ⟨h0,h1,h2,h3⟩:=h;unfold oneP oneB;rw [List.append_assoc,List.singleton_append,cut_hit (itoa_not h0 45 (by decide))];simp only [numP_itoa h0 h1,numP_itoa h2 h3]
theorem oneB_not {r:Int×Int} (h:0≤r.1∧r.1≤1048576∧0≤r.2∧r.2≤1048576) (x:UInt8) (hx:x.toNat<45):x ∉ oneB r:=by
 intro hm;unfold oneB at hm;rcases List.mem_append.1 hm with hm|hm
 ·rcases List.mem_append.1 hm with hm|hm
  ·exact itoa_not h.1 x (by omega) hm
  ·simp only [List.mem_singleton] at hm;have:=congrArg UInt8.toNat hm;have e45:(45:UInt8).toNat=45:=rfl;omega
 ·exact itoa_not h.2.2.1 x (by omega) hm
theorem rngsP_rngB:∀ (l:List (Int×Int)) (f:Nat),l≠[]→l.length≤f→Places l→rngsP f (rngB l)=l
 | [],f,h,_,_=>absurd rfl h
 | [r],f,_,hf,hP=>by
  have hr:=hP r (by simp);obtain ⟨g,rfl⟩:∃ g,f=g+1:=⟨f-1,by simp at hf;omega⟩;have e:rngB [r]=oneB r:=by simp [rngB]
  rw [e,rngsP,cut_miss (oneB_not hr 44 (by decide))];simp [oneP_oneB hr]
 | r::x::t,f,_,hf,hP=>by
  have hr:=hP r (by simp);obtain ⟨g,rfl⟩:∃ g,f=g+1:=⟨f-1,by simp at hf;omega⟩;have e:rngB (r::x::t)=oneB r++44::rngB (x::t):=by simp [rngB]
  rw [e,rngsP,cut_hit (oneB_not hr 44 (by decide))];simp only [if_true,oneP_oneB hr];rw [rngsP_rngB (x::t) g (by simp) (by simp at hf ⊢;omega) (fun y hy=>hP y (List.mem_cons_of_mem _ hy))]
theorem unqL_quoted (s:ByteArray):unqL (quoted s)=(s.data.toList,(quoted s).length,0):=by
 have h:=read_quoted s [];rw [List.append_nil] at h;unfold unqL;rw [h];simp only [List.take_length];rw [if_pos trivial]
theorem read_print {o:OpV} (h:Right o):readP (printP o)=o:=by
 obtain ⟨c,n,k,p,s,l,tc,tn,on⟩:=o;have hid:=idP_bd h.id;simp only at hid;obtain ⟨i0,i1,i2,i3⟩:=hid;have hk:=h.kind;have hx:=h.extra;simp only at hk;unfold readP printP;simp only;have e0:idB c n++[32]++wordB ⟨c,n,k,p,s,l,tc,tn,on⟩=idB c n++32::wordB ⟨c,n,k,p,s,l,tc,tn,on⟩:=by simp
 rw [e0,cut_hit (idB_not i0 i2 32 (by decide))];simp only [idP_idB i0 i1 i2 i3];have hcs:k=1∨k=2∨k=3∨k=4:=by omega
 rcases hcs with rfl|rfl|rfl|rfl
 ·obtain ⟨p0,p1,_⟩:=h.ins rfl;simp only at p0 p1;have e1:wordB ⟨c,n,1,p,s,l,tc,tn,on⟩=insW++32::(Lib.itoa p++32::quoted s):=by
   unfold wordB insB insW;rw [if_pos rfl];simp
  rw [e1,cut_hit (by decide)];simp only [readW,if_true];rw [cut_hit (itoa_not p0 32 (by decide))];simp only [numP_itoa p0 p1,unqL_quoted,bs_id];simp only [Go.Proofs.YtijpfbcippijoaaGreatDoor.extra,if_true,ext0,extT] at hx;cases l<;>cases on<;>by_cases h1:tc=0<;>by_cases h2:tn=0<;>simp_all
 ·obtain ⟨hne,hl⟩:=h.rng (.inl rfl);simp only at hne hl;have e1:wordB ⟨c,n,2,p,s,l,tc,tn,on⟩=hideW++32::rngB l:=by
   unfold wordB hideW;rw [if_neg (by simp),if_pos rfl];simp
  rw [e1,cut_hit (by decide)];simp only [readW];rw [if_neg (by decide),if_pos trivial,rngsP_rngB l _ hne (by have:=hl.few;omega) (lst_places hl)];simp only [Go.Proofs.YtijpfbcippijoaaGreatDoor.extra,extP,extT,← size_zero_iff] at hx;by_cases h0:p=0<;>by_cases h3:s=⟨#[]⟩<;>cases on<;>by_cases h1:tc=0<;>by_cases h2:tn=0<;>simp_all
 ·obtain ⟨hne,hl⟩:=h.rng (.inr rfl);simp only at hne hl;have e1:wordB ⟨c,n,3,p,s,l,tc,tn,on⟩=showW++32::rngB l:=by
   unfold wordB showW;rw [if_neg (by simp),if_neg (by simp),if_pos rfl];simp
  rw [e1,cut_hit (by decide)];simp only [readW];rw [if_neg (by decide),if_neg (by decide),if_pos trivial,rngsP_rngB l _ hne (by have:=hl.few;omega) (lst_places hl)];simp only [Go.Proofs.YtijpfbcippijoaaGreatDoor.extra,extP,extT,← size_zero_iff] at hx;by_cases h0:p=0<;>by_cases h3:s=⟨#[]⟩<;>cases on<;>by_cases h1:tc=0<;>by_cases h2:tn=0<;>simp_all
 ·have ht:=idP_bd (.inr (h.tgt rfl).1);simp only at ht;obtain ⟨j0,j1,j2,j3⟩:=ht;simp only [Go.Proofs.YtijpfbcippijoaaGreatDoor.extra,extP,ext0,← size_zero_iff] at hx;cases on with
  | true =>
   have e1:wordB ⟨c,n,4,p,s,l,tc,tn,true⟩=onW++32::idB tc tn:=by
    unfold wordB onW;rw [if_neg (by simp),if_neg (by simp),if_neg (by simp),if_pos rfl];simp
   rw [e1,cut_hit (by decide)];simp only [readW,idP_idB j0 j1 j2 j3];rw [if_neg (by decide),if_neg (by decide),if_neg (by decide),if_pos (.inl trivial)];by_cases h0:p=0<;>by_cases h3:s=⟨#[]⟩<;>cases l<;>simp_all
  | false =>
   have e1:wordB ⟨c,n,4,p,s,l,tc,tn,false⟩=offW++32::idB tc tn:=by
    unfold wordB offW;rw [if_neg (by simp),if_neg (by simp),if_neg (by simp),if_neg (by simp)];simp
   rw [e1,cut_hit (by decide)];simp only [readW,idP_idB j0 j1 j2 j3];rw [if_neg (by decide),if_neg (by decide),if_neg (by decide),if_pos (.inr trivial)];have ed:decide (offW=onW)=false:=by decide
   rw [ed];by_cases h0:p=0<;>by_cases h3:s=⟨#[]⟩<;>cases l<;>simp_all
end Go.Proofs.YtijpfbcippijoaaGreatDoor
