import Derived.Test.YtijpfbcippijoaaGreatDoorAl
import Derived.Test.YtijpfbcippijoaaGreatDoorGr105
import Derived.Test.YtijpfbcippijoaaGreatDoorOqB
import Derived.Test.YtijpfbcippijoaaGreatDoorGr132
import Derived.Test.YtijpfbcippijoaaGreatDoorQlI
import Derived.Test.YtijpfbcippijoaaGreatDoorQlJ
import Derived.Test.YtijpfbcippijoaaGreatDoorQlK
import Derived.Test.YtijpfbcippijoaaGreatDoorQlM
import Derived.Test.YtijpfbcippijoaaGreatDoorGr135
import Derived.Test.YtijpfbcippijoaaGreatDoorGr125
import Derived.Test.YtijpfbcippijoaaGreatDoorGr122
import Derived.Deep.Cut
import Derived.Deep.MidRow
import Derived.Deep.WholeRow
set_option maxHeartbeats 8000000
set_option maxRecDepth 100000
namespace Go.Proofs.YtijpfbcippijoaaGreatDoor
open Go.RowKit Go.Lib Sp
theorem piece_ge (l:List UInt8) (h0:l≠[]):(dec l).2≤(pieceL l).length:=by
 cases hb:brkL l with
 | true =>
  rw [(brk_one l h0 hb).1];exact (pieceL_len l).1
 | false =>
  obtain ⟨hv,hw,rest,hl⟩:=enc_dec l h0 hb;have hp:pieceL l=qR (dec l).1:=by unfold pieceL;rw [if_neg (by rw [hb];decide)]
  rw [hp,hw];generalize (dec l).1=r at *;by_cases h1:r<128
  ·rw [encB1 r (by omega)];exact (qR_len r).1
  ·have h4:=encB_most r;unfold qR;rw [if_neg (by omega),if_neg (by omega),if_neg (by omega),if_neg (by omega),if_neg (by omega)];have h5:1≤(hexL r).length:=by unfold hexL;rw [hexN_length];exact ndig_pos r
   simp only [List.length_append,List.length_cons,List.length_nil];omega
theorem dec_posk (l:List UInt8) (h:l≠[]):1≤(dec l).2:=by
 cases l with
 | nil=>exact absurd rfl h
 | cons b t =>
  have:=width_pos ⟨(b::t).toArray⟩ 0;rw [decode_dec] at this;simpa using this
theorem quoL_ge:∀ (f:Nat) (l:List UInt8),l.length≤f→l.length≤(quoL f l).length
 | 0,l,h=>by simp at h;simp [h]
 | f+1,l,h=>by
  by_cases h0:l=[]
  ·simp [h0]
  ·have h1:=piece_ge l h0;have h2:=dec_posk l h0;have h3:=quoL_ge f (l.drop (dec l).2) (by rw [List.length_drop];omega);rw [quoL_step f l h0,List.length_append];rw [List.length_drop] at h3;omega
theorem quoted_ge (s:ByteArray):s.size≤(quoted s).length:=by
 have:=quoL_ge s.size s.data.toList (by rw [size_data];exact lR _);unfold quoted;rw [size_data] at this ⊢;simp only [List.length_append,List.length_cons,List.length_nil];omega
theorem unqR_size (l:List UInt8):(unqR l).1.length≤l.length:=by
 unfold unqR;split
 ·rename_i x n _
  split
  ·rename_i h
   have h1:=quoted_ge ⟨x.toArray⟩;rw [h,List.length_take,sizeL] at h1;simp only;omega
  ·simp
 ·simp
theorem textG_size (r:List UInt8) (k:Nat):(textG r k).size≤r.length:=by
 unfold textG;split
 ·rw [bs_size];have:=unqR_size (r.drop (k+1));rw [List.length_drop] at this;omega
 ·exact Nat.zero_le _
def guessG (l:List UInt8):OpV :=
 if (wordG 32 l ((wordG 32 l 0).2+1)).1=[105,110,115] then ⟨(idG (wordG 32 l 0).1).1,(idG (wordG 32 l 0).1).2,1,numG (wordG 32 (restG l (wordG 32 l ((wordG 32 l 0).2+1)).2) 0).1,textG (restG l (wordG 32 l ((wordG 32 l 0).2+1)).2) (wordG 32 (restG l (wordG 32 l ((wordG 32 l 0).2+1)).2) 0).2,[],0,0,false⟩
 else if (wordG 32 l ((wordG 32 l 0).2+1)).1=[104,105,100,101] then ⟨(idG (wordG 32 l 0).1).1,(idG (wordG 32 l 0).1).2,2,0,⟨#[]⟩,rngsG (restG l (wordG 32 l ((wordG 32 l 0).2+1)).2),0,0,false⟩
 else if (wordG 32 l ((wordG 32 l 0).2+1)).1=[115,104,111,119] then ⟨(idG (wordG 32 l 0).1).1,(idG (wordG 32 l 0).1).2,3,0,⟨#[]⟩,rngsG (restG l (wordG 32 l ((wordG 32 l 0).2+1)).2),0,0,false⟩
 else if (wordG 32 l ((wordG 32 l 0).2+1)).1=[111,110] then ⟨(idG (wordG 32 l 0).1).1,(idG (wordG 32 l 0).1).2,4,0,⟨#[]⟩,[],(pairG 46 (restG l (wordG 32 l ((wordG 32 l 0).2+1)).2)).1,(pairG 46 (restG l (wordG 32 l ((wordG 32 l 0).2+1)).2)).2,true⟩
 else if (wordG 32 l ((wordG 32 l 0).2+1)).1=[111,102,102] then ⟨(idG (wordG 32 l 0).1).1,(idG (wordG 32 l 0).1).2,4,0,⟨#[]⟩,[],(pairG 46 (restG l (wordG 32 l ((wordG 32 l 0).2+1)).2)).1,(pairG 46 (restG l (wordG 32 l ((wordG 32 l 0).2+1)).2)).2,false⟩
 else ⟨(idG (wordG 32 l 0).1).1,(idG (wordG 32 l 0).1).2,0,0,⟨#[]⟩,[],0,0,false⟩
theorem guessG_size (l:List UInt8):(guessG l).s.size≤l.length:=by
 unfold guessG
 repeat' split
 ·refine Nat.le_trans (textG_size _ _) ?_;unfold restG;rw [List.length_drop];omega
 all_goals exact Nat.zero_le _
theorem rng_nilk (w:World):Rng w none 0 0 []:=rng_of_rw (rw_nil w)
theorem gGuess_any (l:List UInt8) (hl:l.length≤2097152) (w:World) :
  Calls Tryz.prog 83 #[.string (bs l)] w fun e w'=>∃ a m cap,e=.returned (opVal (guessG l) (.slice a m cap))∧Rng w' a m cap (guessG l).l∧(∀ g off,a=some ⟨g,off,none⟩→w.heap.size≤g)∧Below w.heap.size w w':=by
 unfold guessG;by_cases h1:(wordG 32 l ((wordG 32 l 0).2+1)).1=[105,110,115]
 ·rw [if_pos h1];refine (gGuess_ins l hl w h1).mono ?_;rintro e w' ⟨rfl,hb⟩;exact ⟨none,0,0,rfl,rng_nilk w',fun g off ha=>(by cases ha),hb⟩
 rw [if_neg h1];by_cases h2:(wordG 32 l ((wordG 32 l 0).2+1)).1=[104,105,100,101]
 ·rw [if_pos h2];exact gGuess_hide l hl w h2
 rw [if_neg h2];by_cases h3:(wordG 32 l ((wordG 32 l 0).2+1)).1=[115,104,111,119]
 ·rw [if_pos h3];exact gGuess_show l hl w h3
 rw [if_neg h3];by_cases h4:(wordG 32 l ((wordG 32 l 0).2+1)).1=[111,110]
 ·rw [if_pos h4];refine (gGuess_on l hl w h4).mono ?_;rintro e w' ⟨rfl,hb⟩;exact ⟨none,0,0,rfl,rng_nilk w',fun g off ha=>(by cases ha),hb⟩
 rw [if_neg h4];by_cases h5:(wordG 32 l ((wordG 32 l 0).2+1)).1=[111,102,102]
 ·rw [if_pos h5];refine (gGuess_off l hl w h5).mono ?_;rintro e w' ⟨rfl,hb⟩;exact ⟨none,0,0,rfl,rng_nilk w',fun g off ha=>(by cases ha),hb⟩
 rw [if_neg h5];refine (gGuess_no l hl w h1 h2 h3 h4 h5).mono ?_;rintro e w' ⟨rfl,hb⟩;exact ⟨none,0,0,rfl,rng_nilk w',fun g off ha=>(by cases ha),hb⟩
theorem gPrint_any {o:OpV} {w:World} {a:Option Addr} {m cap:Nat} (h:Rng w a m cap o.l) (hs:o.s.size≤2097152) :
  Calls Tryz.prog 43 #[opVal o (.slice a m cap)] w fun e w'=>e=.returned (.tuple #[.string (if ownP o=0 then bs (printP o) else ⟨#[]⟩),.int .i64 (ownP o)])∧Below w.heap.size w w':=by
 obtain ⟨c,n,k,p,s,l,tc,tn,on⟩:=o;by_cases hok:ownP ⟨c,n,k,p,s,l,tc,tn,on⟩=0
 ·rw [if_pos hok];have hk:=(right_of hok).kind;simp only at hk h hs;have hcs:k=1∨k=2∨k=3∨k=4:=by omega
  rcases hcs with rfl|rfl|rfl|rfl
  ·rw [hok];exact gPrint_ins h hs hok
  ·rw [hok];exact gPrint_hide h hs hok
  ·rw [hok];exact gPrint_show h hs hok
  ·cases on
   ·rw [hok];exact gPrint_off h hs hok
   ·rw [hok];exact gPrint_on h hs hok
 ·rw [if_neg hok];exact gPrint_wrong h hs hok
theorem numG_itoa {n:Int} (h:0≤n) (h1:n≤1048576):numG (Lib.itoa n)=n:=by
 rw [itoa_digits h,numG_dec n.toNat (by omega)];omega
theorem idG_idBk {c n:Int} (h0:0≤c) (h1:c≤1048576) (h2:0≤n) (h3:n≤1048576):idG (idB c n)=(c,n):=by
 obtain ⟨x,rfl⟩:=Int.eq_ofNat_of_zero_le h0;obtain ⟨y,rfl⟩:=Int.eq_ofNat_of_zero_le h2;exact idG_idB x y (by omega) (by omega)
theorem pairG_oneB {r:Int×Int} (h:0≤r.1∧r.1≤1048576∧0≤r.2∧r.2≤1048576):pairG 45 (oneB r)=r:=by
 obtain ⟨h0,h1,h2,h3⟩:=h;unfold oneB;rw [List.append_assoc,List.singleton_append,pairG_hit (itoa_not h0 45 (by decide)),numG_itoa h0 h1,numG_itoa h2 h3]
theorem rngsF_rngB:∀ (l:List (Int×Int)) (p:List UInt8) (f:Nat),l≠[]→l.length≤f→Places l→rngsF f (p++rngB l) p.length=l
 | [],_,_,h,_,_=>absurd rfl h
 | [r],p,f,_,hf,hP=>by
  have hr:=hP r (by simp);obtain ⟨g,rfl⟩:∃ g,f=g+1:=⟨f-1,by simp at hf;omega⟩;have e:rngB [r]=oneB r:=by simp [rngB]
  rw [e,rngsF,if_neg (by simp),wordG_at,wordG_miss (oneB_not hr 44 (by decide))];simp only [pairG_oneB hr];have e2:rngsF g (p++oneB r) (p.length+(oneB r).length+1)=[]:=by
   cases g with
   | zero=>rfl
   | succ g=>rw [rngsF,if_pos (by simp)]
  rw [e2]
 | r::x::t,p,f,_,hf,hP=>by
  have hr:=hP r (by simp);obtain ⟨g,rfl⟩:∃ g,f=g+1:=⟨f-1,by simp at hf;omega⟩;have e:rngB (r::x::t)=oneB r++44::rngB (x::t):=by simp [rngB]
  have ih:=rngsF_rngB (x::t) (p++(oneB r++[44])) g (by simp) (by simp at hf ⊢;omega) (fun y hy=>hP y (List.mem_cons_of_mem _ hy));rw [e,rngsF,if_neg (by simp),wordG_at,wordG_hit (oneB_not hr 44 (by decide))];simp only [pairG_oneB hr];have e3:p++(oneB r++44::rngB (x::t))=p++(oneB r++[44])++rngB (x::t):=by simp
  have e4:p.length+(oneB r).length+1=(p++(oneB r++[44])).length:=by simp;omega
  rw [e3,e4,ih]
theorem rngB_ge:∀ (l:List (Int×Int)),l.length≤(rngB l).length+1
 | []=>by simp
 | [r]=>by simp
 | r::x::t=>by
  have e:rngB (r::x::t)=oneB r++44::rngB (x::t):=by simp [rngB]
  have:=rngB_ge (x::t);rw [e];simp only [List.length_append,List.length_cons] at this ⊢;omega
theorem rngsG_rngB {l:List (Int×Int)} (h:l≠[]) (hP:Places l):rngsG (rngB l)=l:=by
 have:=rngsF_rngB l [] ((rngB l).length+1) h (rngB_ge l) hP;simpa [rngsG] using this
theorem textG_quoted (p:List UInt8) (s:ByteArray):textG (p++32::quoted s) p.length=s:=by
 unfold textG;rw [if_pos (by simp),show p++32::quoted s=(p++[32])++quoted s from by simp,List.drop_left' (by simp)];have h:=read_quotedR s [];rw [List.append_nil] at h;unfold unqR;rw [h];simp only [List.take_length];rw [if_pos trivial];rfl
theorem guess_at {a k:List UInt8} (r:List UInt8) (ha:(32:UInt8) ∉ a) (hk:(32:UInt8) ∉ k) :
  wordG 32 (a++32::(k++32::r)) 0=(a,a.length)∧wordG 32 (a++32::(k++32::r)) (a.length+1)=(k,a.length+1+k.length)∧restG (a++32::(k++32::r)) (a.length+1+k.length)=r:=by
 refine ⟨wordG_hit ha,?_,?_⟩
 ·have h:=wordG_at (c:=32) (a++[32]) (k++32::r);rw [wordG_hit hk] at h;simpa using h
 ·unfold restG;rw [show a++32::(k++32::r)=(a++32::(k++[32]))++r from by simp,List.drop_left' (by simp;omega)]
theorem guess_print {o:OpV} (h:Right o):guessG (printP o)=o:=by
 obtain ⟨c,n,k,p,s,l,tc,tn,on⟩:=o;have hid:=idP_bd h.id;simp only at hid;obtain ⟨i0,i1,i2,i3⟩:=hid;have hk:=h.kind;have hx:=h.extra;simp only at hk;unfold printP;simp only;have e0:idB c n++[32]++wordB ⟨c,n,k,p,s,l,tc,tn,on⟩=idB c n++32::wordB ⟨c,n,k,p,s,l,tc,tn,on⟩:=by simp
 have hn:=idB_not i0 i2 32 (by decide);rw [e0];have hcs:k=1∨k=2∨k=3∨k=4:=by omega
 rcases hcs with rfl|rfl|rfl|rfl
 ·obtain ⟨p0,p1,_⟩:=h.ins rfl;simp only at p0 p1;have e1:wordB ⟨c,n,1,p,s,l,tc,tn,on⟩=insW++32::(Lib.itoa p++32::quoted s):=by
   unfold wordB insB insW;rw [if_pos rfl];simp
  obtain ⟨g1,g2,g3⟩:=guess_at (Lib.itoa p++32::quoted s) hn (by decide:(32:UInt8) ∉ insW);unfold guessG;rw [e1,g1];simp only;rw [g2];simp only;rw [g3,if_pos (by decide),idG_idBk i0 i1 i2 i3,wordG_hit (itoa_not p0 32 (by decide))];simp only [numG_itoa p0 p1,textG_quoted];simp only [Go.Proofs.YtijpfbcippijoaaGreatDoor.extra,if_true,ext0,extT] at hx;cases l<;>cases on<;>by_cases h1:tc=0<;>by_cases h2:tn=0<;>simp_all
 ·obtain ⟨hne,hl⟩:=h.rng (.inl rfl);simp only at hne hl;have e1:wordB ⟨c,n,2,p,s,l,tc,tn,on⟩=hideW++32::rngB l:=by
   unfold wordB hideW;rw [if_neg (by simp),if_pos rfl];simp
  obtain ⟨g1,g2,g3⟩:=guess_at (rngB l) hn (by decide:(32:UInt8) ∉ hideW);unfold guessG;rw [e1,g1];simp only;rw [g2];simp only;rw [g3,if_neg (by decide),if_pos (by decide),idG_idBk i0 i1 i2 i3,rngsG_rngB hne (lst_places hl)];simp only [Go.Proofs.YtijpfbcippijoaaGreatDoor.extra,extP,extT,← size_zero_iff] at hx;by_cases h0:p=0<;>by_cases h3:s=⟨#[]⟩<;>cases on<;>by_cases h1:tc=0<;>by_cases h2:tn=0<;>simp_all
 ·obtain ⟨hne,hl⟩:=h.rng (.inr rfl);simp only at hne hl;have e1:wordB ⟨c,n,3,p,s,l,tc,tn,on⟩=showW++32::rngB l:=by
   unfold wordB showW;rw [if_neg (by simp),if_neg (by simp),if_pos rfl];simp
  obtain ⟨g1,g2,g3⟩:=guess_at (rngB l) hn (by decide:(32:UInt8) ∉ showW);unfold guessG;rw [e1,g1];simp only;rw [g2];simp only;rw [g3,if_neg (by decide),if_neg (by decide),if_pos (by decide),idG_idBk i0 i1 i2 i3,rngsG_rngB hne (lst_places hl)];simp only [Go.Proofs.YtijpfbcippijoaaGreatDoor.extra,extP,extT,← size_zero_iff] at hx;by_cases h0:p=0<;>by_cases h3:s=⟨#[]⟩<;>cases on<;>by_cases h1:tc=0<;>by_cases h2:tn=0<;>simp_all
 ·have htt:=(h.tgt rfl).1;have ht:=idP_bd (.inr htt);simp only at ht htt;obtain ⟨j0,j1,j2,j3⟩:=ht;simp only [Go.Proofs.YtijpfbcippijoaaGreatDoor.extra,extP,ext0,← size_zero_iff] at hx;have hb:idB tc tn=Lib.itoa tc++46::Lib.itoa tn:=by
   unfold idB;rw [if_neg (by intro e;rw [e.1,e.2] at htt;revert htt;decide)];simp
  have hp:pairG 46 (idB tc tn)=(tc,tn):=by
   rw [hb,pairG_hit (itoa_not j0 46 (by decide)),numG_itoa j0 j1,numG_itoa j2 j3]
  cases on with
  | true =>
   have e1:wordB ⟨c,n,4,p,s,l,tc,tn,true⟩=onW++32::idB tc tn:=by
    unfold wordB onW;rw [if_neg (by simp),if_neg (by simp),if_neg (by simp),if_pos rfl];simp
   obtain ⟨g1,g2,g3⟩:=guess_at (idB tc tn) hn (by decide:(32:UInt8) ∉ onW);unfold guessG;rw [e1,g1];simp only;rw [g2];simp only;rw [g3,if_neg (by decide),if_neg (by decide),if_neg (by decide),if_pos (by decide),idG_idBk i0 i1 i2 i3,hp];by_cases h0:p=0<;>by_cases h3:s=⟨#[]⟩<;>cases l<;>simp_all
  | false =>
   have e1:wordB ⟨c,n,4,p,s,l,tc,tn,false⟩=offW++32::idB tc tn:=by
    unfold wordB offW;rw [if_neg (by simp),if_neg (by simp),if_neg (by simp),if_neg (by simp)];simp
   obtain ⟨g1,g2,g3⟩:=guess_at (idB tc tn) hn (by decide:(32:UInt8) ∉ offW);unfold guessG;rw [e1,g1];simp only;rw [g2];simp only;rw [g3,if_neg (by decide),if_neg (by decide),if_neg (by decide),if_neg (by decide),if_pos (by decide),idG_idBk i0 i1 i2 i3,hp];by_cases h0:p=0<;>by_cases h3:s=⟨#[]⟩<;>cases l<;>simp_all
theorem taken_both (l:List UInt8):Taken l↔(ownP (guessG l)=0∧printP (guessG l)=l):=by
 constructor
 ·rintro ⟨h1,h2⟩;have:=guess_print (right_of h1);rw [h2] at this;rw [this];exact ⟨h1,h2⟩
 ·rintro ⟨h1,h2⟩;have:=read_print (right_of h1);rw [h2] at this;unfold Taken;rw [this];exact ⟨h1,h2⟩
theorem taken_same {l:List UInt8} (h:Taken l):guessG l=readP l:=by
 have:=guess_print (right_of h.1)
 rwa [h.2] at this
theorem gParse_yes (l:List UInt8) (hl:l.length≤1048576) (hT:ownP (guessG l)=0∧printP (guessG l)=l) (w:World) :
  Calls Tryz.prog 45 #[.string (bs l)] w fun e w'=>∃ a m cap,e=.returned (.tuple #[opVal (guessG l) (.slice a m cap),.int .i64 0])∧Rng w' a m cap (guessG l).l∧(∀ g off,a=some ⟨g,off,none⟩→w.heap.size≤g)∧Below w.heap.size w w':=by
 have hsz:=guessG_size l;have HL:Hid (∀ w':World,Below w.heap.size w w'→Calls Tryz.prog 83 #[.string (bs l)] w' fun e w''=>∃ a m cap,e=.returned (opVal (guessG l) (.slice a m cap))∧Rng w'' a m cap (guessG l).l∧(∀ g off,a=some ⟨g,off,none⟩→w'.heap.size≤g)∧Below w'.heap.size w' w''):=fun w' hb=>gGuess_any l (by omega) w'
 have HP:Hid (∀ (w':World) (a:Option Addr) (m cap:Nat),Below w.heap.size w w'→Rng w' a m cap (guessG l).l→Calls Tryz.prog 43 #[opVal (guessG l) (.slice a m cap)] w' fun e w''=>e=.returned (.tuple #[.string (bs l),.int .i64 0])∧Below w'.heap.size w' w''):=fun w' a m cap hb hR=>by
  have:=gPrint_any hR (by omega);rw [if_pos hT.1,hT.1,hT.2] at this;exact this
 clear hT hsz hl;generalize guessG l=o at *;generalize bs l=S at *;obtain ⟨c,n,k,p,s,L,tc,tn,on⟩:=o;simp only [opVal] at *;have hw2:=(bE w.heap.size w).alloc (lR _) (Obj.cells #[.int .i64 0,.int .i64 0,.int .i64 0,.int .i64 0,.string ⟨#[]⟩,.slice none 0 0,.int .i64 0,.int .i64 0,.bool false] 44);go_enter Tryz.func45,Tryz.ntmps45;go_wp2_with fail;refine (HL.out _ hw2).mono ?_;rintro e w1 ⟨a,m,cap,rfl,hR,hAt,hb1⟩;have hB1:=hw2.trans (hb1.mono hw2.size);have x1:=(hb1.block w.heap.size (by simp)).trans (alloc_last _ _ _ rfl);have hRb:Hid (∀ g off,a=some ⟨g,off,none⟩→0<m→g≠w.heap.size):=fun g off ha _=>by have h1:=hAt g off ha;simp at h1;omega
 have HAt:Hid (∀ g off,a=some ⟨g,off,none⟩→w.heap.size≤g):=fun g off ha=>by have h1:=hAt g off ha;simp at h1;omega
 clear hw2 hb1 hAt;go_wp2_with fail;have hB2:=hB1.alloc hB1.size (Obj.cells #[.int .i64 c,.int .i64 n,.int .i64 k,.int .i64 p,.string s,.slice a m cap,.int .i64 tc,.int .i64 tn,.bool on] 44);have hR2:=hR.below ((bE w1.heap.size w1).alloc (lR _) (Obj.cells #[.int .i64 c,.int .i64 n,.int .i64 k,.int .i64 p,.string s,.slice a m cap,.int .i64 tc,.int .i64 tn,.bool on] 44));have x2:=(Below.heap_alloc w1 (Obj.cells #[.int .i64 c,.int .i64 n,.int .i64 k,.int .i64 p,.string s,.slice a m cap,.int .i64 tc,.int .i64 tn,.bool on] 44) _ (gA x1)).trans x1;have y2:(w1.alloc (Obj.cells #[.int .i64 c,.int .i64 n,.int .i64 k,.int .i64 p,.string s,.slice a m cap,.int .i64 tc,.int .i64 tn,.bool on] 44)).heap[w1.heap.size]?=some (Obj.cells #[.int .i64 c,.int .i64 n,.int .i64 k,.int .i64 p,.string s,.slice a m cap,.int .i64 tc,.int .i64 tn,.bool on] 44):=alloc_last _ _ _ rfl;refine (HP.out _ _ _ _ hB2 hR2).mono ?_;rintro e w3 ⟨rfl,hb3⟩;have hB3:=hB2.trans (hb3.mono hB2.size);have hR3:=hR2.below hb3;have x3:=(hb3.block _ (gA x2)).trans x2;have y3:=(hb3.block _ (gA y2)).trans y2;clear hb3 hB2 hR2 x2 y2 hB1 hR x1;obtain ⟨f0,f1,f2,f3,f4,f5,f6,f7,f8⟩:=cl9 y3;obtain ⟨⟨d0,d1,d2,d3,d4,d5,d6,d7,d8⟩,z10,z11,z12,z13,z14,z15,z16,z17,z18⟩:=cf9 x3;have hx9:=set9g (v0:=.int .i64 c) (v1:=.int .i64 n) (v2:=.int .i64 k) (v3:=.int .i64 p) (v4:=.string s) (v5:=.slice a m cap) (v6:=.int .i64 tc) (v7:=.int .i64 tn) (v8:=.bool on) x3;have hq8:=q9 hB3 (b:=w.heap.size) (lR _) (.int .i64 c) (.int .i64 n) (.int .i64 k) (.int .i64 p) (.string s) (.slice a m cap) (.int .i64 tc) (.int .i64 tn) (.bool on);obtain ⟨w9,hw9⟩:=exW hx9;have hRg:Rng w9 a m cap L:=by
  rw [← hw9];refine rng_set ?_ _ _ _ hRb.out;refine rng_set ?_ _ _ _ hRb.out;refine rng_set ?_ _ _ _ hRb.out;refine rng_set ?_ _ _ _ hRb.out;refine rng_set ?_ _ _ _ hRb.out;refine rng_set ?_ _ _ _ hRb.out;refine rng_set ?_ _ _ _ hRb.out;refine rng_set ?_ _ _ _ hRb.out;refine rng_set ?_ _ _ _ hRb.out;exact hR3
 rw [hw9] at hx9 hq8;obtain ⟨r0,r1,r2,r3,r4,r5,r6,r7,r8⟩:=cl9 hx9;clear x3 y3 hR3 hB3;go_wp2_with fail
 try rw [hw9]
 refine bodyPost_ret (v:=.tuple #[.agg #[.int .i64 c,.int .i64 n,.int .i64 k,.int .i64 p,.string s,.slice a m cap,.int .i64 tc,.int .i64 tn,.bool on],.int .i64 0]) (by simp [results,Tryz.results45,go_sem,r0,r1,r2,r3,r4,r5,r6,r7,r8]) rfl ⟨a,m,cap,rfl,hRg,HAt.out,hq8⟩
theorem gParse_wrong (l:List UInt8) (hl:l.length≤1048576) (hT:ownP (guessG l)≠0) (w:World) :
  Calls Tryz.prog 45 #[.string (bs l)] w fun e w'=>e=.returned (.tuple #[opVal zeroOp (.slice none 0 0),.int .i64 44])∧Below w.heap.size w w':=by
 have hsz:=guessG_size l;have HL:Hid (∀ w':World,Below w.heap.size w w'→Calls Tryz.prog 83 #[.string (bs l)] w' fun e w''=>∃ a m cap,e=.returned (opVal (guessG l) (.slice a m cap))∧Rng w'' a m cap (guessG l).l∧(∀ g off,a=some ⟨g,off,none⟩→w'.heap.size≤g)∧Below w'.heap.size w' w''):=fun w' hb=>gGuess_any l (by omega) w'
 have HP:Hid (∀ (w':World) (a:Option Addr) (m cap:Nat),Below w.heap.size w w'→Rng w' a m cap (guessG l).l→Calls Tryz.prog 43 #[opVal (guessG l) (.slice a m cap)] w' fun e w''=>e=.returned (.tuple #[.string ⟨#[]⟩,.int .i64 (ownP (guessG l))])∧Below w'.heap.size w' w''):=fun w' a m cap hb hR=>by
  have:=gPrint_any hR (by omega);rw [if_neg hT] at this;exact this
 have t1:(ownP (guessG l)==0)=false:=nB hT;have t2:decide (ownP (guessG l)=0)=false:=decide_eq_false hT;have t3:¬ ownP (guessG l)=0:=hT;clear hT hsz hl;generalize ownP (guessG l)=r at *;generalize guessG l=o at *;generalize bs l=S at *;obtain ⟨c,n,k,p,s,L,tc,tn,on⟩:=o;simp only [opVal,zeroOp] at *;have hw2:=(bE w.heap.size w).alloc (lR _) (Obj.cells #[.int .i64 0,.int .i64 0,.int .i64 0,.int .i64 0,.string ⟨#[]⟩,.slice none 0 0,.int .i64 0,.int .i64 0,.bool false] 44);go_enter Tryz.func45,Tryz.ntmps45;go_wp2_with fail;refine (HL.out _ hw2).mono ?_;rintro e w1 ⟨a,m,cap,rfl,hR,_,hb1⟩;have hB1:=hw2.trans (hb1.mono hw2.size);have x1:=(hb1.block w.heap.size (by simp)).trans (alloc_last _ _ _ rfl);clear hw2 hb1;go_wp2_with fail;have hB2:=hB1.alloc hB1.size (Obj.cells #[.int .i64 c,.int .i64 n,.int .i64 k,.int .i64 p,.string s,.slice a m cap,.int .i64 tc,.int .i64 tn,.bool on] 44);have hR2:=hR.below ((bE w1.heap.size w1).alloc (lR _) (Obj.cells #[.int .i64 c,.int .i64 n,.int .i64 k,.int .i64 p,.string s,.slice a m cap,.int .i64 tc,.int .i64 tn,.bool on] 44));have x2:=(Below.heap_alloc w1 (Obj.cells #[.int .i64 c,.int .i64 n,.int .i64 k,.int .i64 p,.string s,.slice a m cap,.int .i64 tc,.int .i64 tn,.bool on] 44) _ (gA x1)).trans x1;refine (HP.out _ _ _ _ hB2 hR2).mono ?_;rintro e w3 ⟨rfl,hb3⟩;have hB3:=hB2.trans (hb3.mono hB2.size);have x3:=(hb3.block _ (gA x2)).trans x2;clear hb3 hB2 hR2 x2 hB1 hR x1;obtain ⟨⟨d0,d1,d2,d3,d4,d5,d6,d7,d8⟩,z10,z11,z12,z13,z14,z15,z16,z17,z18⟩:=cf9 x3;have hx9:=set9 x3;have hq8:=q9 hB3 (b:=w.heap.size) (lR _) (.int .i64 0) (.int .i64 0) (.int .i64 0) (.int .i64 0) (.string ⟨#[]⟩) (.slice none 0 0) (.int .i64 0) (.int .i64 0) (.bool false);obtain ⟨w9,hw9⟩:=exW hx9;rw [hw9] at hx9 hq8;obtain ⟨r0,r1,r2,r3,r4,r5,r6,r7,r8⟩:=cl9 hx9;clear x3 hB3;go_wp2_with fail
 try rw [hw9]
 refine bodyPost_ret (v:=.tuple #[.agg #[.int .i64 0,.int .i64 0,.int .i64 0,.int .i64 0,.string ⟨#[]⟩,.slice none 0 0,.int .i64 0,.int .i64 0,.bool false],.int .i64 44]) (by simp [results,Tryz.results45,go_sem,r0,r1,r2,r3,r4,r5,r6,r7,r8]) rfl ⟨rfl,hq8⟩
theorem gParse_other (l:List UInt8) (hl:l.length≤1048576) (hT:ownP (guessG l)=0) (hT2:printP (guessG l)≠l) (w:World) :
  Calls Tryz.prog 45 #[.string (bs l)] w fun e w'=>e=.returned (.tuple #[opVal zeroOp (.slice none 0 0),.int .i64 44])∧Below w.heap.size w w':=by
 have hsz:=guessG_size l;have HL:Hid (∀ w':World,Below w.heap.size w w'→Calls Tryz.prog 83 #[.string (bs l)] w' fun e w''=>∃ a m cap,e=.returned (opVal (guessG l) (.slice a m cap))∧Rng w'' a m cap (guessG l).l∧(∀ g off,a=some ⟨g,off,none⟩→w'.heap.size≤g)∧Below w'.heap.size w' w''):=fun w' hb=>gGuess_any l (by omega) w'
 have HP:Hid (∀ (w':World) (a:Option Addr) (m cap:Nat),Below w.heap.size w w'→Rng w' a m cap (guessG l).l→Calls Tryz.prog 43 #[opVal (guessG l) (.slice a m cap)] w' fun e w''=>e=.returned (.tuple #[.string (bs (printP (guessG l))),.int .i64 0])∧Below w'.heap.size w' w''):=fun w' a m cap hb hR=>by
  have:=gPrint_any hR (by omega);rw [if_pos hT,hT] at this;exact this
 have t1:((bs (printP (guessG l))).toList==(bs l).toList)=false:=by
  rw [show (bs (printP (guessG l))).toList=printP (guessG l) from list_of _,show (bs l).toList=l from list_of l];exact nB hT2
 clear hT hT2 hsz hl;generalize bs (printP (guessG l))=P0 at *;generalize guessG l=o at *;generalize bs l=S at *;obtain ⟨c,n,k,p,s,L,tc,tn,on⟩:=o;simp only [opVal,zeroOp] at *;have hw2:=(bE w.heap.size w).alloc (lR _) (Obj.cells #[.int .i64 0,.int .i64 0,.int .i64 0,.int .i64 0,.string ⟨#[]⟩,.slice none 0 0,.int .i64 0,.int .i64 0,.bool false] 44);go_enter Tryz.func45,Tryz.ntmps45;go_wp2_with fail;refine (HL.out _ hw2).mono ?_;rintro e w1 ⟨a,m,cap,rfl,hR,_,hb1⟩;have hB1:=hw2.trans (hb1.mono hw2.size);have x1:=(hb1.block w.heap.size (by simp)).trans (alloc_last _ _ _ rfl);clear hw2 hb1;go_wp2_with fail;have hB2:=hB1.alloc hB1.size (Obj.cells #[.int .i64 c,.int .i64 n,.int .i64 k,.int .i64 p,.string s,.slice a m cap,.int .i64 tc,.int .i64 tn,.bool on] 44);have hR2:=hR.below ((bE w1.heap.size w1).alloc (lR _) (Obj.cells #[.int .i64 c,.int .i64 n,.int .i64 k,.int .i64 p,.string s,.slice a m cap,.int .i64 tc,.int .i64 tn,.bool on] 44));have x2:=(Below.heap_alloc w1 (Obj.cells #[.int .i64 c,.int .i64 n,.int .i64 k,.int .i64 p,.string s,.slice a m cap,.int .i64 tc,.int .i64 tn,.bool on] 44) _ (gA x1)).trans x1;refine (HP.out _ _ _ _ hB2 hR2).mono ?_;rintro e w3 ⟨rfl,hb3⟩;have hB3:=hB2.trans (hb3.mono hB2.size);have x3:=(hb3.block _ (gA x2)).trans x2;clear hb3 hB2 hR2 x2 hB1 hR x1;obtain ⟨⟨d0,d1,d2,d3,d4,d5,d6,d7,d8⟩,z10,z11,z12,z13,z14,z15,z16,z17,z18⟩:=cf9 x3;have hx9:=set9 x3;have hq8:=q9 hB3 (b:=w.heap.size) (lR _) (.int .i64 0) (.int .i64 0) (.int .i64 0) (.int .i64 0) (.string ⟨#[]⟩) (.slice none 0 0) (.int .i64 0) (.int .i64 0) (.bool false);obtain ⟨w9,hw9⟩:=exW hx9;rw [hw9] at hx9 hq8;obtain ⟨r0,r1,r2,r3,r4,r5,r6,r7,r8⟩:=cl9 hx9;clear x3 hB3;go_wp2_with fail
 try rw [hw9]
 refine bodyPost_ret (v:=.tuple #[.agg #[.int .i64 0,.int .i64 0,.int .i64 0,.int .i64 0,.string ⟨#[]⟩,.slice none 0 0,.int .i64 0,.int .i64 0,.bool false],.int .i64 44]) (by simp [results,Tryz.results45,go_sem,r0,r1,r2,r3,r4,r5,r6,r7,r8]) rfl ⟨rfl,hq8⟩
theorem gParse_no (l:List UInt8) (hl:l.length≤1048576) (hT:¬ Taken l) (w:World) :
  Calls Tryz.prog 45 #[.string (bs l)] w fun e w'=>e=.returned (.tuple #[opVal zeroOp (.slice none 0 0),.int .i64 44])∧Below w.heap.size w w':=by
 by_cases h:ownP (guessG l)=0
 ·exact gParse_other l hl h (fun e=>hT ((taken_both l).2 ⟨h,e⟩)) w
 ·exact gParse_wrong l hl h w
end Go.Proofs.YtijpfbcippijoaaGreatDoor
namespace Go.Proofs.YtijpfbcippijoaaGreatDoor
open Go.RowKit Go.Lib
structure Tabq (w:World):Prop where
 bar:Bar w
 pow:Pow w
 deb:Deb w
 errs:Errs w
theorem Tabq.below {w w':World} (h:Tabq w) (hb:Below w.heap.size w w'):Tabq w':=⟨h.bar.below hb,h.pow.below hb,h.deb.below hb,h.errs.below hb⟩
theorem opPrint_any {o:OpV} {w:World} {a:Option Addr} {m cap:Nat} (h:Sp.Rng w a m cap o.l) (hs:o.s.size≤2097152) (hw:Tabq w) :
  Calls Tryz.prog 20 #[opVal o (.slice a m cap)] w fun e w'=>e=.returned (.tuple #[.string (if ownP o=0 then bs (printP o) else ⟨#[]⟩),.int .i64 (ownP o)])∧Below w.heap.size w w':=by
 by_cases hok:ownP o=0
 ·rw [if_pos hok,hok];exact print_right h hok (by omega) hw.bar hw.pow hw.deb
 ·rw [if_neg hok];exact print_wrong h hok (by omega) hw.bar
theorem parse_both (ln:ByteArray) (hl:ln.size≤1048576):∃ (z:OpV) (C:Int),
  (∀ w:World,Tabq w→Calls Tryz.prog 44 #[.string ln] w fun e w'=>∃ a m cap,e=.returned (.tuple #[opVal z (.slice a m cap),.int .i64 C])∧Sp.Rng w' a m cap z.l∧Below w.heap.size w w') ∧
  (∀ w:World,Calls Tryz.prog 45 #[.string ln] w fun e w'=>∃ a m cap,e=.returned (.tuple #[opVal z (.slice a m cap),.int .i64 C])∧Sp.Rng w' a m cap z.l∧Below w.heap.size w w'):=by
 obtain ⟨l,rfl⟩:∃ l,ln=bs l:=⟨_,(bs_id ln).symm⟩;rw [bs_size] at hl;by_cases hT:Taken l
 ·refine ⟨readP l,0,fun w hw=>?_,fun w=>?_⟩
  ·refine (parse_yes l hl hT w hw.bar hw.pow hw.deb hw.errs).mono ?_;rintro e w' ⟨a,m,cap,h1,h2,_,h3⟩;exact ⟨a,m,cap,h1,h2,h3⟩
  ·refine (gParse_yes l hl ((taken_both l).1 hT) w).mono ?_;rintro e w' ⟨a,m,cap,h1,h2,_,h3⟩;rw [taken_same hT] at h1 h2;exact ⟨a,m,cap,h1,h2,h3⟩
 ·refine ⟨zeroOp,44,fun w hw=>?_,fun w=>?_⟩
  ·refine (parse_no l hl hT w hw.bar hw.pow hw.deb hw.errs).mono ?_;rintro e w' ⟨h1,h3⟩;exact ⟨none,0,0,h1,rng_nilk _,h3⟩
  ·refine (gParse_no l hl hT w).mono ?_;rintro e w' ⟨h1,h3⟩;exact ⟨none,0,0,h1,rng_nilk _,h3⟩
theorem asks_8 {c n k p tc tn c2 n2 k2 p2 tc2 tn2 tot:Int} {s s2 ln:ByteArray} {on on2:Bool} {l:List (Int×Int)} {w:World} {a a1 b2:Option Addr} {m cap cap1 m2 cap2:Nat} (h1:Sp.Rng w a1 m cap1 l) (h2:Sp.Rng w a m cap l) (hs:s.size≤2097152) (_hm:m≤1048576) (hw:Tabq w) :
  Calls Tryz.prog 15 #[.agg #[.int .i64 8,.int .i64 c,.int .i64 n,.int .i64 k,.int .i64 p,.string s,.slice a m cap,.int .i64 tc,.int .i64 tn,.bool on,.int .i64 c2,.int .i64 n2,.int .i64 k2,.int .i64 p2,.string s2,.slice b2 m2 cap2,.int .i64 tc2,.int .i64 tn2,.bool on2,.int .i64 tot,.string ln],.agg #[.int .i64 c,.int .i64 n,.int .i64 k,.int .i64 p,.string s,.slice a1 m cap1,.int .i64 tc,.int .i64 tn,.bool on]] w fun e w'=>e=.returned (.bool true)∧Below w.heap.size w w':=by
 go_enter Tryz.func15,Tryz.ntmps15;go_wp2_with fail;generalize hW0:(w.alloc (Obj.cells #[.int .i64 8,.int .i64 c,.int .i64 n,.int .i64 k,.int .i64 p,.string s,.slice a m cap,.int .i64 tc,.int .i64 tn,.bool on,.int .i64 c2,.int .i64 n2,.int .i64 k2,.int .i64 p2,.string s2,.slice b2 m2 cap2,.int .i64 tc2,.int .i64 tn2,.bool on2,.int .i64 tot,.string ln] 46)).alloc (Obj.cells #[.int .i64 c,.int .i64 n,.int .i64 k,.int .i64 p,.string s,.slice a1 m cap1,.int .i64 tc,.int .i64 tn,.bool on] 44)=W0;have hX:W0.heap[w.heap.size]?=some (Obj.cells #[.int .i64 8,.int .i64 c,.int .i64 n,.int .i64 k,.int .i64 p,.string s,.slice a m cap,.int .i64 tc,.int .i64 tn,.bool on,.int .i64 c2,.int .i64 n2,.int .i64 k2,.int .i64 p2,.string s2,.slice b2 m2 cap2,.int .i64 tc2,.int .i64 tn2,.bool on2,.int .i64 tot,.string ln] 46):=by rw [← hW0];exact (Below.heap_alloc _ _ _ (by simp)).trans (alloc_last _ _ _ rfl)
 have hZ:W0.heap[w.heap.size+1]?=some (Obj.cells #[.int .i64 c,.int .i64 n,.int .i64 k,.int .i64 p,.string s,.slice a1 m cap1,.int .i64 tc,.int .i64 tn,.bool on] 44):=by rw [← hW0];exact alloc_last _ _ _ (by simp)
 have hB0:Below w.heap.size w W0:=by rw [← hW0];exact ((bE w.heap.size w).alloc (lR _) _).alloc (by simp) _
 clear hW0;have g1:=h1.below hB0;have g2:=h2.below hB0;have gw:=hw.below hB0;clear h1 h2 hw;obtain ⟨x0,x1,x2,x3,x4,x5,x6,x7,x8,x9,x10,x11,x12,x13,x14,x15,x16,x17,x18,x19,x20⟩:=box21 hX;obtain ⟨y0,y1,y2,y3,y4,y5,y6,y7,y8⟩:=box9 hZ;have T1:=opPrint_any (o:=⟨c,n,k,p,s,l,tc,tn,on⟩) g1 hs gw;have T2:=fun w1 (hb1:Below W0.heap.size W0 w1)=>gPrint_any (o:=⟨c,n,k,p,s,l,tc,tn,on⟩) (w:=w1) (g2.below hb1) hs
 generalize (if ownP ⟨c,n,k,p,s,l,tc,tn,on⟩=0 then bs (printP ⟨c,n,k,p,s,l,tc,tn,on⟩) else ⟨#[]⟩)=S at *;generalize ownP ⟨c,n,k,p,s,l,tc,tn,on⟩=C at *;simp only [opVal] at T1 T2;have HT2:Hid (∀ w1,Below W0.heap.size W0 w1→_):=T2;clear T2;go_wp2_with fail;refine T1.mono ?_;rintro e w1 ⟨rfl,hb1⟩;have hX1:=(hb1.block _ (gA hX)).trans hX;have hZ1:=(hb1.block _ (gA hZ)).trans hZ;have hB1:=hB0.trans (hb1.mono hB0.size);clear T1;clear x0 x1 x2 x3 x4 x5 x6 x7 x8 x9 x10 x11 x12 x13 x14 x15 x16 x17 x18 x19 x20 y0 y1 y2 y3 y4 y5 y6 y7 y8;obtain ⟨x0,x1,x2,x3,x4,x5,x6,x7,x8,x9,x10,x11,x12,x13,x14,x15,x16,x17,x18,x19,x20⟩:=box21 hX1;obtain ⟨y0,y1,y2,y3,y4,y5,y6,y7,y8⟩:=box9 hZ1;have T2:=HT2.out w1 hb1;clear HT2;go_wp2_with fail;refine T2.mono ?_;rintro e w2 ⟨rfl,hb2⟩;have hB2:=hB1.trans (hb2.mono hB1.size);clear T2;clear x0 x1 x2 x3 x4 x5 x6 x7 x8 x9 x10 x11 x12 x13 x14 x15 x16 x17 x18 x19 x20 y0 y1 y2 y3 y4 y5 y6 y7 y8;have er:(C==C)=true:=beq_self_eq_true _;clear hX1 hZ1 hX hZ;go_wp2_with fail;go_ret;exact ⟨rfl,hB2⟩
theorem asks_9 {c n k p tc tn c2 n2 k2 p2 tc2 tn2 tot:Int} {s s2 ln:ByteArray} {on on2:Bool} {l:List (Int×Int)} {w:World} {a a1 b2:Option Addr} {m cap cap1 m2 cap2:Nat} (h1:Sp.Rng w a1 m cap1 l) (h2:Sp.Rng w a m cap l) (_hs:s.size≤2097152) (_hm:m≤1048576) (hw:Tabq w) (hln:ln.size≤1048576) :
  Calls Tryz.prog 15 #[.agg #[.int .i64 9,.int .i64 c,.int .i64 n,.int .i64 k,.int .i64 p,.string s,.slice a m cap,.int .i64 tc,.int .i64 tn,.bool on,.int .i64 c2,.int .i64 n2,.int .i64 k2,.int .i64 p2,.string s2,.slice b2 m2 cap2,.int .i64 tc2,.int .i64 tn2,.bool on2,.int .i64 tot,.string ln],.agg #[.int .i64 c,.int .i64 n,.int .i64 k,.int .i64 p,.string s,.slice a1 m cap1,.int .i64 tc,.int .i64 tn,.bool on]] w fun e w'=>e=.returned (.bool true)∧Below w.heap.size w w':=by
 go_enter Tryz.func15,Tryz.ntmps15;go_wp2_with fail;generalize hW0:(w.alloc (Obj.cells #[.int .i64 9,.int .i64 c,.int .i64 n,.int .i64 k,.int .i64 p,.string s,.slice a m cap,.int .i64 tc,.int .i64 tn,.bool on,.int .i64 c2,.int .i64 n2,.int .i64 k2,.int .i64 p2,.string s2,.slice b2 m2 cap2,.int .i64 tc2,.int .i64 tn2,.bool on2,.int .i64 tot,.string ln] 46)).alloc (Obj.cells #[.int .i64 c,.int .i64 n,.int .i64 k,.int .i64 p,.string s,.slice a1 m cap1,.int .i64 tc,.int .i64 tn,.bool on] 44)=W0;have hX:W0.heap[w.heap.size]?=some (Obj.cells #[.int .i64 9,.int .i64 c,.int .i64 n,.int .i64 k,.int .i64 p,.string s,.slice a m cap,.int .i64 tc,.int .i64 tn,.bool on,.int .i64 c2,.int .i64 n2,.int .i64 k2,.int .i64 p2,.string s2,.slice b2 m2 cap2,.int .i64 tc2,.int .i64 tn2,.bool on2,.int .i64 tot,.string ln] 46):=by rw [← hW0];exact (Below.heap_alloc _ _ _ (by simp)).trans (alloc_last _ _ _ rfl)
 have hZ:W0.heap[w.heap.size+1]?=some (Obj.cells #[.int .i64 c,.int .i64 n,.int .i64 k,.int .i64 p,.string s,.slice a1 m cap1,.int .i64 tc,.int .i64 tn,.bool on] 44):=by rw [← hW0];exact alloc_last _ _ _ (by simp)
 have hB0:Below w.heap.size w W0:=by rw [← hW0];exact ((bE w.heap.size w).alloc (lR _) _).alloc (by simp) _
 clear hW0;have g1:=h1.below hB0;have g2:=h2.below hB0;have gw:=hw.below hB0;clear h1 h2 hw;obtain ⟨x0,x1,x2,x3,x4,x5,x6,x7,x8,x9,x10,x11,x12,x13,x14,x15,x16,x17,x18,x19,x20⟩:=box21 hX;obtain ⟨y0,y1,y2,y3,y4,y5,y6,y7,y8⟩:=box9 hZ;obtain ⟨z,C,HZ1,T2⟩:=parse_both ln hln;have T1:=HZ1 W0 gw;obtain ⟨zc,zn,zk,zp,zs,zl,ztc,ztn,zon⟩:=z;simp only [opVal] at T1 T2;have HT2:Hid (∀ w1:World,_):=T2;clear T2 HZ1 hln;go_wp2_with fail;refine T1.mono ?_;rintro e w1 ⟨a3,m3,c3,rfl,hr1,hb1⟩;have hX1:=(hb1.block _ (gA hX)).trans hX;have hZ1:=(hb1.block _ (gA hZ)).trans hZ;have hB1:=hB0.trans (hb1.mono hB0.size);clear T1;clear x0 x1 x2 x3 x4 x5 x6 x7 x8 x9 x10 x11 x12 x13 x14 x15 x16 x17 x18 x19 x20 y0 y1 y2 y3 y4 y5 y6 y7 y8;go_upto_region 32 with fail
 generalize hW3:w1.alloc (Obj.cells #[.int .i64 zc,.int .i64 zn,.int .i64 zk,.int .i64 zp,.string zs,.slice a3 m3 c3,.int .i64 ztc,.int .i64 ztn,.bool zon] 44)=W3;have hb3:Below w1.heap.size w1 W3:=hW3▸(bE w1.heap.size w1).alloc (lR _) _;have hA3:W3.heap[w1.heap.size]?=some (Obj.cells #[.int .i64 zc,.int .i64 zn,.int .i64 zk,.int .i64 zp,.string zs,.slice a3 m3 c3,.int .i64 ztc,.int .i64 ztn,.bool zon] 44):=hW3▸alloc_last _ _ _ rfl;clear hW3;have hX3:=(hb3.block _ (gA hX1)).trans hX1;have hZ3:=(hb3.block _ (gA hZ1)).trans hZ1;have hB3:=hB1.trans (hb3.mono hB1.size);obtain ⟨x0,x1,x2,x3,x4,x5,x6,x7,x8,x9,x10,x11,x12,x13,x14,x15,x16,x17,x18,x19,x20⟩:=box21 hX3;obtain ⟨y0,y1,y2,y3,y4,y5,y6,y7,y8⟩:=box9 hZ3;have T2:=HT2.out W3;clear HT2;go_wp2_with fail;refine T2.mono ?_;rintro e w4 ⟨a5,m5,c5,rfl,hr4,hb4⟩;have hA4:=(hb4.block _ (gA hA3)).trans hA3;have hB4:=hB3.trans (hb4.mono hB3.size);clear T2;clear x0 x1 x2 x3 x4 x5 x6 x7 x8 x9 x10 x11 x12 x13 x14 x15 x16 x17 x18 x19 x20 y0 y1 y2 y3 y4 y5 y6 y7 y8;go_upto_region 33 with fail
 generalize hW5:w4.alloc (Obj.cells #[.int .i64 zc,.int .i64 zn,.int .i64 zk,.int .i64 zp,.string zs,.slice a5 m5 c5,.int .i64 ztc,.int .i64 ztn,.bool zon] 44)=W5;have hb5:Below w4.heap.size w4 W5:=hW5▸(bE w4.heap.size w4).alloc (lR _) _;have hA5:W5.heap[w4.heap.size]?=some (Obj.cells #[.int .i64 zc,.int .i64 zn,.int .i64 zk,.int .i64 zp,.string zs,.slice a5 m5 c5,.int .i64 ztc,.int .i64 ztn,.bool zon] 44):=hW5▸alloc_last _ _ _ rfl;clear hW5;have hA6:=(hb5.block _ (gA hA4)).trans hA4;have hB5:=hB4.trans (hb5.mono hB4.size);obtain ⟨u0,u1,u2,u3,u4,u5,u6,u7,u8⟩:=box9 hA6;obtain ⟨v0,v1,v2,v3,v4,v5,v6,v7,v8⟩:=box9 hA5;have T3:=gEqual_self (o:=⟨zc,zn,zk,zp,zs,zl,ztc,ztn,zon⟩) (((hr1.below hb3).below hb4).below hb5) (hr4.below hb5);simp only [opVal] at T3;have er:(C==C)=true:=beq_self_eq_true _;clear hX1 hZ1 hX hZ hX3 hZ3 hA3 hA4 hA5 hA6 hr1 hr4;go_wp2_with fail;refine T3.mono ?_;rintro e w6 ⟨rfl,hb6⟩;have hB6:=hB5.trans (hb6.mono hB5.size);clear T3;clear u0 u1 u2 u3 u4 u5 u6 u7 u8 v0 v1 v2 v3 v4 v5 v6 v7 v8;go_wp2_with fail;go_ret;exact ⟨rfl,hB6⟩
def StepOk3 (W:World) (x:StepV):Prop:=StepOk2 W x∧x.ln.size≤1048576
theorem StepOk3.below {W W':World} {x:StepV} (h:StepOk3 W x) (hb:Below W.heap.size W W'):StepOk3 W' x:=by
 obtain ⟨⟨⟨h1,h2,h3⟩,h4,h5,h6,h7⟩,h8⟩:=h;exact ⟨⟨⟨h1.below hb,h2,h3⟩,h4,h5.below hb,h6,h7⟩,h8⟩
end Go.Proofs.YtijpfbcippijoaaGreatDoor
