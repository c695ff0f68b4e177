import Derived.Test.YtijpfbcippijoaaGreatDoorAl
import Derived.Test.YtijpfbcippijoaaGreatDoorGr138
import Derived.Laws.BytesArg
import Derived.Test.YtijpfbcippijoaaGreatDoorGr141
import Derived.Test.YtijpfbcippijoaaGreatDoorGr146
import Derived.Lib.FrozenHead2
import Derived.Laws.IdiomStrings
import Derived.Deep.DeepCutAuto
set_option maxHeartbeats 2000000
set_option maxRecDepth 100000
namespace Go.Proofs.YtijpfbcippijoaaGreatDoor
open Go.RowKit Go.Lib
structure Deb (w:World):Prop where
 cell:w.cell? ⟨6,15,none⟩=some (.int .u8 4)
theorem Deb.below {w w':World} (h:Deb w) (hb:Below w.heap.size w w'):Deb w':=by
 refine ⟨(hb.cell (p:=⟨6,15,none⟩) ?_).trans h.cell⟩;rcases Nat.lt_or_ge 6 w.heap.size with h2|h2
 ·exact h2
 ·have:=h.cell;simp [World.cell?,Array.getElem?_eq_none h2] at this
theorem trailing64_16 (w:World) (hd:Deb w):Calls Tryz.prog 170 #[.int .u64 16] w fun e w'=>e=.returned (.int .i64 4)∧w'=w:=by
 have hc:=hd.cell;have h1:IntKind.u64.wrap (-16)=18446744073709551600:=by decide
 have hb:bits .and .u64 16 18446744073709551600=16:=by decide
 have h2:IntKind.u64.wrap 4573923408821661840=4573923408821661840:=by decide
 go_enter Tryz.func170,Tryz.ntmps170;go_wp2_with fail;go_ret;exact ⟨rfl,rfl⟩
theorem trailing_16 (w:World) (hd:Deb w):Calls Tryz.prog 161 #[.int .u64 16] w fun e w'=>e=.returned (.int .i64 4)∧w'=w:=by
 go_enter Tryz.func161,Tryz.ntmps161;go_wp2_with fail;refine (trailing64_16 _ hd).mono ?_;rintro e w1 ⟨rfl,rfl⟩;go_wp2_with fail;go_ret;exact ⟨rfl,rfl⟩
theorem power_16 (w:World):Calls Tryz.prog 160 #[.int .i64 16] w fun e w'=>e=.returned (.bool true)∧w'=w:=by
 have hb:bits .and .i64 16 15=0:=by decide
 go_enter Tryz.func160,Tryz.ntmps160;go_wp2_with fail;go_ret;exact ⟨rfl,rfl⟩
def hexd (d:Nat):UInt8:=if d<10 then UInt8.ofNat (48+d) else UInt8.ofNat (87+d)
def hexN (u:Nat):Nat→List UInt8
 | 0=>[]
 | n+1=>hexd (u / 16 ^ n % 16)::hexN u n
def ndig (u:Nat):Nat:=if u<16 then 1 else if u<256 then 2 else if u<4096 then 3 else if u<65536 then 4 else if u<1048576 then 5 else 6
def hexL (u:Nat):List UInt8:=hexN u (ndig u)
theorem ndig_of {u j:Nat} (hu:u≤1114111) (h1:u / 16 ^ j<16) (h2:j=0∨16≤u / 16 ^ (j-1)):ndig u=j+1:=by
 have hj:j≤5:=by
  rcases h2 with h2|h2
  ·omega
  ·rcases Nat.lt_or_ge 5 j with h3|h3
   ·have h4:16 ^ 5≤16 ^ (j-1):=Nat.pow_le_pow_right (by decide) (by omega);have h5:u / 16 ^ (j-1)≤u / 16 ^ 5:=Nat.div_le_div_left h4 (by decide);have h6:u / 16 ^ 5≤1114111 / 16 ^ 5:=Nat.div_le_div_right hu;omega
   ·exact h3
 unfold ndig;have:j=0∨j=1∨j=2∨j=3∨j=4∨j=5:=by omega
 rcases this with rfl|rfl|rfl|rfl|rfl|rfl<;>simp at h1 h2<;>(repeat' split)<;>omega
theorem alloc_new (w:World) (o:Obj):(w.alloc o).heap[w.heap.size]?=some o:=by
 show (w.heap.push o)[w.heap.size]?=some o;exact Array.getElem?_push_size
def zc65:Array Value:=Array.replicate 65 (.int .u8 0)
theorem zero65:zc65.size=65:=by kernel_rfl
theorem zc65_ne:¬ zc65=#[]:=fun h=>by have:=congrArg Array.size h;rw [zero65] at this;cases this
theorem run_zc65 (w:World):(zeroValue 205).run Tryz.prog w=.ok (.agg zc65) w:=by
 have h:(Tryz.prog.info? 205).map (fun i=>i.zero)=some (some (.agg zc65)):=by kernel_rfl
 cases hi:Tryz.prog.info? 205 with
 | none=>rw [hi] at h;cases h
 | some i =>
  rw [hi] at h;simp only [Option.map_some,Option.some.injEq] at h;simp [zeroValue,typeInfo,hi,h]
theorem mask15 (v:Nat) (h:v≤1114111):bits .and .u64 (v:Int) 15=((v % 16:Nat):Int) :=
 (bits_mask .u64 63 (by decide) (fun n h0 h1=>by rw [IntKind.wrap_u64];omega) 4 (by decide) (v:Int) (by omega) (by omega)).trans (by omega)
theorem hexTab (d:Nat) (h:d<16):∀ h':d<(⟨#[48,49,50,51,52,53,54,55,56,57,97,98,99,100,101,102,103,104,105,106,107,108,109,110,111,112,113,114,115,116,117,118,119,120,121,122]⟩:ByteArray).size,((⟨#[48,49,50,51,52,53,54,55,56,57,97,98,99,100,101,102,103,104,105,106,107,108,109,110,111,112,113,114,115,116,117,118,119,120,121,122]⟩:ByteArray)[d]'h').toNat=(hexd d).toNat:=by
 have:d=0∨d=1∨d=2∨d=3∨d=4∨d=5∨d=6∨d=7∨d=8∨d=9∨d=10∨d=11∨d=12∨d=13∨d=14∨d=15:=by omega
 rcases this with rfl|rfl|rfl|rfl|rfl|rfl|rfl|rfl|rfl|rfl|rfl|rfl|rfl|rfl|rfl|rfl<;>intro _<;>rfl
theorem conv_arr {W:World} {g y n cap:Nat} {cur:Array Value} {T:TypeId} {l:List UInt8} (hh:W.heap[g]?=some (.cells cur T (0,0))) (hd:cur.toList.drop y=Lib.byteCells l) (hl:l.length=n) :
  (convert 85 9 (.slice (some ⟨g,y,none⟩) n cap)).run Tryz.prog W=.ok (.string ⟨l.toArray⟩) W:=by
 have:=run_convert_bytes_arg (P:=Tryz.prog) W 85 5 Tryz.underlying85 Tryz.underlying5 g y n cap (l.map fun b=>(b.toNat:Int)) (by simpa using hl) (fun j hj=>by
  have e1:(cur.toList.drop y)[j]?=(Lib.byteCells l)[j]?:=by rw [hd]
  rw [List.getElem?_drop,Array.getElem?_toList] at e1
  simp only [World.cell?,hh]
  rw [e1]
  simp [Lib.byteCells,List.getElem?_eq_getElem (show j<l.length by omega),List.getD_eq_getElem?_getD]) 9 Tryz.underlying9
 rw [this];have e:strOfNums (l.map fun b=>(b.toNat:Int))=⟨l.toArray⟩:=by
  unfold strOfNums;simp [Function.comp_def]
 rw [e]
theorem set_drop (cur:Array Value) (y:Nat) (v:Value) (l:List Value) (hy:y<cur.size) (h:cur.toList.drop (y+1)=l):(cur.setIfInBounds y v).toList.drop y=v::l:=by
 subst h;rw [Array.toList_setIfInBounds,List.drop_set,if_neg (by omega),Nat.sub_self,List.drop_eq_getElem_cons (by simpa using hy)];rfl
theorem hexN_length (u:Nat):∀ n,(hexN u n).length=n
 | 0=>rfl
 | n+1=>by rw [hexN,List.length_cons,hexN_length u n]
theorem formatBits_16 (u:Nat) (hu:u≤1114111) (w:World) (hd:Deb w) :
  Calls Tryz.prog 145 #[.slice none 0 0,.int .u64 u,.int .i64 16,.bool false,.bool false] w fun e w'=>e=.returned (.tuple #[.slice none 0 0,.string ⟨(hexL u).toArray⟩])∧Below w.heap.size w w':=by
 have HZ0:=run_zc65;have HZ1:=zc65_ne;go_enter Tryz.func145,Tryz.ntmps145;go_wp2_with (go_at_call 160;refine (power_16 _).mono ?_;rintro e w1 ⟨rfl,rfl⟩);refine (trailing_16 _ (hd.below ((bE _ _).alloc (lR _) _))).mono ?_;rintro e w1 ⟨rfl,rfl⟩;go_wp2_with fail;go_loopw [1,13] (fun a i wr=>∃ (j x:Nat) (cur:Array Value),x+j=65∧j≤5∧a=.int .u64 (u / 16 ^ j:Nat)∧i=.int .i64 x∧wr.heap[w.heap.size]?=some (.cells cur 205 (0,0))∧cur.size=65∧Hid (cur.toList.drop x=Lib.byteCells (hexN u j))∧Below w.heap.size w wr∧Hid (j=0∨16≤u / 16 ^ (j-1))) (fun a _ _=>(RowKit.intOf a).toNat)
 case atStart =>
  refine ⟨0,65,_,rfl,by decide,by simp,rfl,?_,zero65,?_,(bE _ _).alloc (lR _) _,.inl rfl⟩
  ·exact alloc_new _ _
  ·show _=_;rw [List.drop_eq_nil_of_le (by rw [Array.length_toList,zero65];decide)];rfl
 case round =>
  obtain ⟨j,x,cur,hxj,hj,rfl,rfl,hhp,hsz,HD,hb,HL⟩:=hrel;have hv:u / 16 ^ j≤1114111:=Nat.le_trans (Nat.div_le_self _ _) hu;obtain ⟨v,hv0⟩:∃ v,u / 16 ^ j=v:=⟨_,rfl⟩;rw [hv0] at hv;have HV:Hid (u / 16 ^ j=v):=hv0;rw [hv0];clear hv0;have hm:=mask15 v hv;obtain ⟨y,rfl⟩:∃ y,x=y+1:=⟨x-1,by omega⟩;have hfr:wr.frozen? ⟨w.heap.size,y,none⟩=false:=by simp [World.frozen?,hhp]
  obtain ⟨v0,hcl⟩:∃ v0,wr.cell? ⟨w.heap.size,y,none⟩=some v0:=⟨cur[y]'(by omega),by simp [World.cell?,hhp]⟩;have hal:Tryz.prog.arrayLen 205=65:=by kernel_rfl
  have hhp2:∀ V,(wr.setCell ⟨w.heap.size,y,none⟩ V).heap[w.heap.size]?=some (.cells (cur.setIfInBounds y V) 205 (0,0)):=fun V=>by simp [World.setCell,Array.getElem?_modify,hhp]
  have hsz2:∀ V,(cur.setIfInBounds y V).size=65:=fun V=>by simp [hsz]
  have hyl:y<cur.size:=by omega
  have HS:Hid (∀ V,(cur.setIfInBounds y V).toList.drop y=V::Lib.byteCells (hexN u j)):=fun V=>set_drop cur y V _ hyl HD.out
  have hB2:∀ V,Below w.heap.size w (wr.setCell ⟨w.heap.size,y,none⟩ V):=fun V=>hb.setCell (p:=⟨w.heap.size,y,none⟩) (lR _) V
  clear hyl hsz HD hb;by_cases h16:16≤v
  ·have hx:=hexTab (v % 16) (Nat.mod_lt _ (by decide));have HE:Hid (Value.int .u8 ((hexd (v % 16)).toNat:Int)::Lib.byteCells (hexN u j)=Lib.byteCells (hexN u (j+1))):=by
    show _=Lib.byteCells (hexd (u / 16 ^ j % 16)::hexN u j);rw [HV.out];rfl
   have HD2:Hid (u / 16 ^ (j+1)=v / 16):=by
    show _=_;rw [Nat.pow_succ,← Nat.div_div_eq_div_mul,HV.out]
   generalize (hexd (v % 16)).toNat=dv at *;go_wp2_with fail;refine ⟨⟨j+1,y,_,by omega,?_,?_,rfl,hhp2 _,hsz2 _,?_,hB2 _,.inr ?_⟩,?_⟩
   ·rcases Nat.lt_or_ge j 5 with h5|h5
    ·omega
    ·have hj5:j=5:=by omega
     have h6:=HV.out;rw [hj5] at h6;have h7:u / 16 ^ 5≤1114111 / 16 ^ 5:=Nat.div_le_div_right hu;have h8:1114111 / 16 ^ 5=1:=by decide
     omega
   ·rw [HD2.out];rfl
   ·show _=_;rw [HS.out,HE.out]
   ·rw [Nat.add_sub_cancel,HV.out];exact h16
   ·simp [RowKit.intOf];omega
  ·have hx:=hexTab v (by omega);have hn:Hid (hexL u=hexN u (j+1)):=by
    show _=_;unfold hexL;rw [ndig_of hu (by rw [HV.out];omega) HL.out]
   have HE:Hid (Value.int .u8 ((hexd v).toNat:Int)::Lib.byteCells (hexN u j)=Lib.byteCells (hexN u (j+1))):=by
    show _=Lib.byteCells (hexd (u / 16 ^ j % 16)::hexN u j);rw [HV.out,Nat.mod_eq_of_lt (by omega)];rfl
   generalize (hexd v).toNat=dv at *;have hcv:∀ cap,(convert 85 9 (.slice (some ⟨w.heap.size,y,none⟩) (65-y) cap)).run Tryz.prog (wr.setCell ⟨w.heap.size,y,none⟩ (.int .u8 (dv:Int)))=_:=fun cap=>conv_arr (hhp2 _) ((HS.out _).trans HE.out) (by rw [hexN_length];omega)
   have hy65:¬ (65=y):=by omega
   have hyl2:(y:Int)≤65:=by omega
   go_wp2_with fail;go_ret2;rw [hn.out];exact ⟨rfl,hB2 _⟩
theorem sizeBo:(Tryz.prog.info? 87).map (·.size)=some 2:=by kernel_rfl
theorem liesBo:liesAt Tryz.prog Tryz.prog.depth 87 (2 / Tryz.prog.cellsOf 87) 0 87 1=true:=by kernel_rfl
theorem infoBo:(Tryz.prog.info? 5).map (fun i=>(i.zero,i.size,i.bytes))=some (some (.int .u8 0),1,1):=by kernel_rfl
theorem copyCheckO_fresh (b:Nat) (w:World) (h0:w.cell? ⟨b,0,none⟩=some (.pointer none)) (hsh:w.shape? b=some (87,2)) (hfz:w.frozen? ⟨b,0,none⟩=false) :
  Calls Tryz.prog 100 #[.pointer (some ⟨b,0,none⟩)] w fun e w'=>e=.returned (.tuple #[])∧w'=w.setCell ⟨b,0,none⟩ (.pointer (some ⟨b,0,none⟩)):=by
 obtain ⟨j,hj,hjs⟩:=Option.map_eq_some_iff.1 sizeBo;go_enter Tryz.func100,Tryz.ntmps100;go_wp2;rw [Lib.run_to_unsafe w ⟨b,0,none⟩ Tryz.underlying84 Tryz.underlying173 hj (by rw [hjs];decide) hsh (Nat.zero_lt_succ 1)];simp only [Result.andThen];rw [Oper.upon_value];go_wp2;rw [run_callFunc_extern Tryz.func126 (by kernel_rfl) (by kernel_rfl) (by kernel_rfl) (e:=Extern.AbiNoEscape.same) (by kernel_rfl)];rw [Lib.run_noEscape];simp only [Result.andThen];rw [Oper.upon_value];go_wp2;rw [Lib.run_from_unsafe w ⟨b,0,none⟩ Tryz.underlying173 Tryz.underlying84 hj hsh liesBo];simp only [Result.andThen];rw [Oper.upon_value];go_wp2;go_end0;exact ⟨rfl,rfl⟩
theorem copyCheckO_used (b:Nat) (w:World) (h0:w.cell? ⟨b,0,none⟩=some (.pointer (some ⟨b,0,none⟩))) :
  Calls Tryz.prog 100 #[.pointer (some ⟨b,0,none⟩)] w fun e w'=>e=.returned (.tuple #[])∧w'=w:=by
 obtain ⟨j,hj,_⟩:=Option.map_eq_some_iff.1 sizeBo;go_enter Tryz.func100,Tryz.ntmps100;go_wp2;rw [Lib.run_neq_ptr_same w _ Tryz.underlying84 hj];go_wp2;go_end0;exact ⟨rfl,rfl⟩
theorem copyCheckO_any (B b:Nat) (bs:List Value) (w:World) (h:Lib.IsBuilderF 87 5 B b bs w) :
  Calls Tryz.prog 100 #[.pointer (some ⟨b,0,none⟩)] w fun e w'=>e=.returned (.tuple #[])∧(Lib.BuilderAtF 87 5 B b (.pointer (some ⟨b,0,none⟩)) bs w'∧Below B w w'∧Lib.OthersKept 5 (some b) w w'):=by
 rcases h with h|h
 ·refine (copyCheckO_fresh b w h.cell0 h.shape h.frozen0).mono ?_;rintro e w' ⟨rfl,rfl⟩;exact ⟨rfl,h.used _,(bE B w).setCell (p:=⟨b,0,none⟩) h.1 _,(Lib.OthersKept.refl _ _ w).setCell ⟨b,0,none⟩ rfl _⟩
 ·refine (copyCheckO_used b w h.cell0).mono ?_;rintro e w' ⟨rfl,rfl⟩;exact ⟨rfl,h,bE B _,Lib.OthersKept.refl _ _ _⟩
theorem writeByte_any (B b:Nat) (bs:List Value) (c:Int) (w:World) (h:Lib.IsBuilderF 87 5 B b bs w) (hlen:bs.length+1≤140737488355328) (hBw:B≤w.heap.size) :
  Calls Tryz.prog 116 #[.pointer (some ⟨b,0,none⟩),.int .u8 c] w fun e w'=>e=.returned .nilIface∧(Lib.BuilderAtF 87 5 B b (.pointer (some ⟨b,0,none⟩)) (bs++[.int .u8 c]) w'∧Below B w w'∧Lib.OthersKept 5 (some b) w w'):=by
 obtain ⟨i0,hi,hz0,hz1,hz2⟩:=info_parts infoBo;go_enter Tryz.func116,Tryz.ntmps116;go_wp2_with fail;refine (copyCheckO_any B b bs _ h).mono ?_;rintro e w1 ⟨rfl,h1,hb1,hk1⟩;obtain ⟨hB,v,hbk,hown,hne⟩:=h1;have c0:w1.cell? ⟨b,0,none⟩=some (.pointer (some ⟨b,0,none⟩)):=by rw [cH hbk];rfl
 have c1:w1.cell? ⟨b,1,none⟩=some v:=by rw [cH hbk];rfl
 have hs1:=hb1.size;go_wp2_with (at_builtin;refine wpList_append_ownF _ rfl _ _ 85 rfl B 5 i0 (.int .u8 0) 1 1 Tryz.underlying85 hi hz0 hz1 hz2 rfl (by decide) _ _ _ rfl (hown.alloc _) ⟨w1.heap.size,0,none⟩ 1 1 [.int .u8 c] rfl rfl ?c1 ?c2 ?c3 ?c4 ?c5 ?_)
 case c1 =>
  intro j u hj
  match j,hj with
  | 0,hj=>simp at hj;subst hj;simp [Addr.add]
 case c2=>first|rfl|(intro u hu;simp at hu;subst hu;rfl)
 case c3=>unfold maxLen;omega
 case c4=>omega
 case c5=>first|omega|(simp;omega)
 intro v' w2 hown' hgrow _;have hlt:b<w1.heap.size:=(gA hbk);have hb2:w2.heap[b]?=some (.cells #[.pointer (some ⟨b,0,none⟩),v] 87 (0,0)):=by
  rw [hgrow.block b (by simp;omega) (fun e=>hne e.symm),Lib.alloc_old w1 _ b hlt];exact hbk
 have d0:w2.cell? ⟨b,0,none⟩=some (.pointer (some ⟨b,0,none⟩)):=by rw [cH hb2];rfl
 have d1:w2.cell? ⟨b,1,none⟩=some v:=by rw [cH hb2];rfl
 have f1:w2.frozen? ⟨b,1,none⟩=false:=Lib.frozen_of_heap hb2 1;obtain ⟨g,cap,rfl⟩:∃ g cap,v'=.slice (some ⟨g,0,none⟩) (bs.length+1) cap:=by
  rcases hown'.2 with ⟨_,h0⟩|⟨g,cap,cur,fz,hv,_⟩
  ·omega
  ·exact ⟨g,cap,hv⟩
 go_wp2;go_ret;refine ⟨rfl,?_,?_,((hk1.alloc _).grown hgrow (Lib.ownsRowF_kind (hown.alloc _))).setCell ⟨b,1,none⟩ rfl _⟩
 ·exact Lib.BuilderAtF.put (T:=87) (e:=5) hB hb2 (bs':=bs++[.int .u8 c]) (by simpa using hown') (by decide)
 ·exact ((hb1.alloc (by omega) _).grown hgrow (by simp;omega) (fun k hk=>(hown.lt k hk).1)).setCell (p:=⟨b,1,none⟩) hB _
theorem writeString_any (B b:Nat) (bs:List Value) (s:ByteArray) (w:World) (h:Lib.IsBuilderF 87 5 B b bs w) (hlen:bs.length+s.size≤140737488355328) (hBw:B≤w.heap.size) :
  Calls Tryz.prog 117 #[.pointer (some ⟨b,0,none⟩),.string s] w fun e w'=>e=.returned (.tuple #[.int .i64 s.size,.nilIface])∧(Lib.BuilderAtF 87 5 B b (.pointer (some ⟨b,0,none⟩)) (bs++Lib.strCells s) w'∧Below B w w'∧Lib.OthersKept 5 (some b) w w'):=by
 obtain ⟨i0,hi,hz0,hz1,hz2⟩:=info_parts infoBo;go_enter Tryz.func117,Tryz.ntmps117;go_wp2_with fail;refine (copyCheckO_any B b bs _ h).mono ?_;rintro e w1 ⟨rfl,h1,hb1,hk1⟩;obtain ⟨hB,v,hbk,hown,hne⟩:=h1;have c0:w1.cell? ⟨b,0,none⟩=some (.pointer (some ⟨b,0,none⟩)):=by rw [cH hbk];rfl
 have c1:w1.cell? ⟨b,1,none⟩=some v:=by rw [cH hbk];rfl
 have hs1:=hb1.size;go_wp2_with (at_builtin;refine Lib.wpList_append_own_stringF _ rfl _ _ 85 9 rfl B 5 i0 Tryz.underlying85 Tryz.underlying9 hi hz0 hz1 hz2 _ _ _ rfl hown s rfl ?c3 ?c4 ?c5 ?_)
 case c3=>unfold maxLen;omega
 case c4=>omega
 case c5=>omega
 intro v' w2 hown' hgrow _;have hlt:b<w1.heap.size:=(gA hbk);have hb2:w2.heap[b]?=some (.cells #[.pointer (some ⟨b,0,none⟩),v] 87 (0,0)):=by
  rw [hgrow.block b hlt (fun e=>hne e.symm)];exact hbk
 have d0:w2.cell? ⟨b,0,none⟩=some (.pointer (some ⟨b,0,none⟩)):=by rw [cH hb2];rfl
 have d1:w2.cell? ⟨b,1,none⟩=some v:=by rw [cH hb2];rfl
 have f1:w2.frozen? ⟨b,1,none⟩=false:=Lib.frozen_of_heap hb2 1;obtain ⟨ao,n',cap,rfl⟩:∃ ao n' cap,v'=.slice ao n' cap:=by
  rcases hown'.2 with ⟨hv,_⟩|⟨g,cap,cur,fz,hv,_⟩
  ·exact ⟨_,_,_,hv⟩
  ·exact ⟨_,_,_,hv⟩
 go_wp2;go_ret2;refine ⟨rfl,?_,?_,(hk1.grown hgrow (Lib.ownsRowF_kind hown)).setCell ⟨b,1,none⟩ rfl _⟩
 ·exact Lib.BuilderAtF.put (T:=87) (e:=5) hB hb2 (bs':=bs++Lib.strCells s) (by simpa [Lib.strCells_length] using hown') (by decide)
 ·exact (hb1.grown hgrow (by omega) (fun k hk=>(hown.lt k hk).1)).setCell (p:=⟨b,1,none⟩) hB _
def plainR (r:Int):Prop:=32≤r∧r≤126∧¬ r=34∧¬ r=92
theorem quotedRune_plain (r:Int) (h:plainR r) (w:World):Calls Tryz.prog 119 #[.int .i32 r] w fun e w'=>e=.returned (.string (Utf8.encode r))∧w'=w:=by
 obtain ⟨h1,h2,h3,h4⟩:=h;have t1:(r==34)=false:=nB h3;have t2:(r==92)=false:=nB h4;have t3:(r==10)=false:=nB (by omega);have t4:(r==9)=false:=nB (by omega);clear h3 h4;go_enter Tryz.func119,Tryz.ntmps119;go_wp2_with fail;go_ret;exact ⟨rfl,rfl⟩
theorem plain_ok {r:Int} (h:plainR r):okR r:=by
 obtain ⟨h1,h2,h3,h4⟩:=h;refine ⟨valid_of (by omega) (by omega) (by omega),?_⟩;unfold okRune;rw [decide_eq_true_iff];omega
theorem encB_plain {r:Int} (h:plainR r):encB r=[UInt8.ofNat r.toNat]:=by
 obtain ⟨h1,h2,_,_⟩:=h;obtain ⟨c,rfl⟩:=Int.eq_ofNat_of_zero_le (show 0≤r by omega);exact encB1 c (by omega)
theorem encode_list (r:Int):Utf8.encode r=⟨(encB r).toArray⟩:=by
 unfold encB;cases Utf8.encode r;simp
theorem catL (a b:List UInt8):(⟨a.toArray⟩:ByteArray)++⟨b.toArray⟩=⟨(a++b).toArray⟩:=by
 apply ByteArray.ext;simp
theorem ndig_le (u:Nat):ndig u≤6:=by unfold ndig;(repeat' split)<;>omega
theorem hexL_len (u:Nat):(hexL u).length≤6:=by unfold hexL;rw [hexN_length];exact ndig_le u
theorem sizeL (l:List UInt8):(⟨l.toArray⟩:ByteArray).size=l.length:=by rw [size_data]
theorem formatIn_16 (u:Nat) (hu:u≤1114111) (w:World) (hd:Deb w) :
  Calls Tryz.prog 133 #[.int .i64 u,.int .i64 16] w fun e w'=>e=.returned (.string ⟨(hexL u).toArray⟩)∧Below w.heap.size w w':=by
 have d1:decide ((u:Int)<0)=false:=decide_eq_false (by omega);go_enter Tryz.func133,Tryz.ntmps133;go_wp2_with fail;refine (formatBits_16 u hu _ hd).mono ?_;rintro e w1 ⟨rfl,hb1⟩;go_wp2_with fail;go_ret;exact ⟨rfl,hb1⟩
theorem format_16 (u:Nat) (hu:u≤1114111) (w:World) (hd:Deb w) :
  Calls Tryz.prog 134 #[.int .i64 u,.int .i64 16] w fun e w'=>e=.returned (.string ⟨(hexL u).toArray⟩)∧Below w.heap.size w w':=by
 go_enter Tryz.func134,Tryz.ntmps134;go_wp2_with fail;refine (formatIn_16 u hu _ hd).mono ?_;rintro e w1 ⟨rfl,hb1⟩;go_wp2_with fail;go_ret;exact ⟨rfl,hb1⟩
theorem quotedByte_any (c:Nat) (hc:c≤255) (w:World) (hd:Deb w) :
  Calls Tryz.prog 118 #[.int .u8 c] w fun e w'=>e=.returned (.string ⟨(92::120::hexL c).toArray⟩)∧Below w.heap.size w w':=by
 have hl:=hexL_len c;rw [← sizeL (hexL c)] at hl;have hC:=catL [92,120] (hexL c);obtain ⟨tx,htx⟩:∃ tx,(⟨(hexL c).toArray⟩:ByteArray)=tx:=⟨_,rfl⟩;rw [htx] at hl hC;have HT:Hid ((⟨(hexL c).toArray⟩:ByteArray)=tx):=htx;have HC:Hid ((⟨#[92,120]⟩:ByteArray)++tx=⟨(92::120::hexL c).toArray⟩):=hC;clear htx hC;go_enter Tryz.func118,Tryz.ntmps118;go_wp2_with fail;refine (format_16 c (by omega) _ hd).mono ?_;rintro e w1 ⟨rfl,hb1⟩;rw [HT.out];go_wp2_with fail;go_ret;rw [← HC.out];exact ⟨rfl,hb1⟩
def qR (r:Nat):List UInt8 :=
 if r=34 then [92,34] else if r=92 then [92,92] else if r=10 then [92,110] else if r=9 then [92,116] else if 32≤r∧r≤126 then [UInt8.ofNat r]
 else [92,117,123]++hexL r++[125]
theorem qR_len (r:Nat):1≤(qR r).length∧(qR r).length≤10:=by
 have:=hexL_len r;unfold qR
 (repeat' split)<;>simp<;>omega
theorem quotedRune_any (r:Nat) (hr:r≤1114111) (w:World) (hd:Deb w) :
  Calls Tryz.prog 119 #[.int .i32 r] w fun e w'=>e=.returned (.string ⟨(qR r).toArray⟩)∧Below w.heap.size w w':=by
 by_cases h1:r=34
 ·subst h1;go_enter Tryz.func119,Tryz.ntmps119;go_wp2_with fail;go_ret;exact ⟨rfl,bE _ _⟩
 by_cases h2:r=92
 ·subst h2;go_enter Tryz.func119,Tryz.ntmps119;go_wp2_with fail;go_ret;exact ⟨rfl,bE _ _⟩
 by_cases h3:r=10
 ·subst h3;go_enter Tryz.func119,Tryz.ntmps119;go_wp2_with fail;go_ret;exact ⟨rfl,bE _ _⟩
 by_cases h4:r=9
 ·subst h4;go_enter Tryz.func119,Tryz.ntmps119;go_wp2_with fail;go_ret;exact ⟨rfl,bE _ _⟩
 by_cases h5:32≤r∧r≤126
 ·refine (quotedRune_plain r ⟨by omega,by omega,by omega,by omega⟩ w).mono ?_;rintro e w' ⟨rfl,rfl⟩;refine ⟨?_,bE _ _⟩;rw [encode_list,encB_plain ⟨by omega,by omega,by omega,by omega⟩];unfold qR;rw [if_neg h1,if_neg h2,if_neg h3,if_neg h4,if_pos h5];simp
 ·have hq:qR r=[92,117,123]++hexL r++[125]:=by
   unfold qR;rw [if_neg h1,if_neg h2,if_neg h3,if_neg h4,if_neg h5]
  have hl:=hexL_len r;rw [← sizeL (hexL r)] at hl;have hC:(⟨#[92,117,123]⟩:ByteArray)++⟨(hexL r).toArray⟩++⟨#[125]⟩=⟨(qR r).toArray⟩:=by
   rw [hq,← catL,← catL]
  obtain ⟨tx,htx⟩:∃ tx,(⟨(hexL r).toArray⟩:ByteArray)=tx:=⟨_,rfl⟩;rw [htx] at hl hC;have HT:Hid ((⟨(hexL r).toArray⟩:ByteArray)=tx):=htx;have HC:Hid ((⟨#[92,117,123]⟩:ByteArray)++tx++⟨#[125]⟩=⟨(qR r).toArray⟩):=hC;clear htx hC hq;have t1:((r:Int)==34)=false:=nB (by omega);have t2:((r:Int)==92)=false:=nB (by omega);have t3:((r:Int)==10)=false:=nB (by omega);have t4:((r:Int)==9)=false:=nB (by omega);have h6:r<32∨126<r:=by omega
  rcases h6 with h6|h6
  ·go_enter Tryz.func119,Tryz.ntmps119;go_wp2_with fail;refine (format_16 r hr _ hd).mono ?_;rintro e w1 ⟨rfl,hb1⟩;rw [HT.out];go_wp2_with fail;go_ret;rw [← HC.out];exact ⟨rfl,hb1⟩
  ·go_enter Tryz.func119,Tryz.ntmps119;go_wp2_with fail;refine (format_16 r hr _ hd).mono ?_;rintro e w1 ⟨rfl,hb1⟩;rw [HT.out];go_wp2_with fail;go_ret;rw [← HC.out];exact ⟨rfl,hb1⟩
theorem builder_keep {T e:TypeId} {B b:Nat} {bs:List Value} {w w':World} (h:Lib.IsBuilderF T e B b bs w) (hb:Below w.heap.size w w'):Lib.IsBuilderF T e B b bs w':=by
 have key:∀ p,Lib.BuilderAtF T e B b p bs w→Lib.BuilderAtF T e B b p bs w':=by
  rintro p ⟨hB,v,hbk,⟨hl,hr⟩,hne⟩;refine ⟨hB,v,(hb.block b (gA hbk)).trans hbk,⟨hl,?_⟩,hne⟩;rcases hr with h0|⟨g,cap,cur,fz,hv,hg,hh,rest⟩
  ·exact .inl h0
  ·exact .inr ⟨g,cap,cur,fz,hv,hg,(hb.block g (gA hh)).trans hh,rest⟩
 rcases h with h|h
 ·exact .inl (key _ h)
 ·exact .inr (key _ h)
def pieceL (l:List UInt8):List UInt8:=if brkL l=true then [92,120]++hexL (at0 l 0) else qR (dec l).1
def quoL:Nat→List UInt8→List UInt8
 | 0,_=>[]
 | f+1,l=>if l=[] then [] else pieceL l++quoL f (l.drop (dec l).2)
def quoted (s:ByteArray):List UInt8:=[34]++quoL s.size s.data.toList++[34]
theorem pieceL_len (l:List UInt8):1≤(pieceL l).length∧(pieceL l).length≤10:=by
 unfold pieceL;split
 ·have:=hexL_len (at0 l 0);simp;omega
 ·exact qR_len _
theorem quoL_end (f:Nat):quoL f []=[]:=by
 cases f
 ·rfl
 ·rw [quoL,if_pos rfl]
theorem byteAt0 (s:ByteArray) (pos:Nat) (h:pos<s.size):(s[pos]'h).toNat=at0 (s.data.toList.drop pos) 0:=by
 have h2:pos<s.data.size:=h;have e:s[pos]'h=s.data[pos]'h2:=rfl;rw [e];unfold at0;rw [List.getD_eq_getElem?_getD,List.getElem?_drop,Nat.add_zero,Array.getElem?_toList,Array.getElem?_eq_getElem h2];rfl
theorem strL (l:List UInt8):Lib.strCells (⟨l.toArray⟩:ByteArray)=Lib.byteCells l:=by
 simp [Lib.strCells,Lib.byteCells]
theorem quoL_step (f:Nat) (l:List UInt8) (h:l≠[]):quoL (f+1) l=pieceL l++quoL f (l.drop (dec l).2):=by rw [quoL,if_neg h]
theorem quote_any (s:ByteArray) (hs:s.size≤1099511627776) (w:World) (hd:Deb w) :
  Calls Tryz.prog 87 #[.string s] w fun e w'=>e=.returned (.string ⟨(quoted s).toArray⟩)∧Below w.heap.size w w':=by
 go_enter Tryz.func87,Tryz.ntmps87;go_wp2_with fail;refine (writeByte_any w.heap.size w.heap.size [] 34 _ (Lib.IsBuilderF.of (Lib.fresh_isBuilder 87 5 w)) (by simp) (by simp)).mono ?_;rintro e w1 ⟨rfl,h1,b1,k1⟩;have hB1:Below w.heap.size w w1:=((bE _ _).alloc (lR _) _).trans b1;have hlt1:w.heap.size<w1.heap.size:=by have:=b1.size;simp at this;omega
 clear b1 k1;go_wp2_with fail;go_loopw [] (fun wr=>∃ (pos f:Nat) (acc:List UInt8),Lib.IsBuilderF 87 5 w.heap.size w.heap.size (Lib.byteCells ([34]++acc)) wr∧wr.heap[w1.heap.size]?=some (.stringIter s pos)∧Below w.heap.size w wr∧pos≤s.size∧s.size≤pos+f∧acc.length≤10*pos∧Hid (acc++quoL f (s.data.toList.drop pos)=quoL s.size s.data.toList)) (fun wr=>s.size-wr.iterPos w1.heap.size)
 case atStart =>
  have hI1:Lib.IsBuilderF 87 5 w.heap.size w.heap.size (Lib.byteCells ([34]++[])) w1:=.inr h1;exact ⟨0,s.size,[],hI1.alloc _,World.iter_heap _ _ _,hB1.alloc (by omega) _,by omega,by omega,by simp,rfl⟩
 case round =>
  obtain ⟨pos,f,acc,hI,hit,hbw,hps,hpf,hal,HA⟩:=hrel;have hszr:w1.heap.size<wr.heap.size:=(gA hit);by_cases hp:pos<s.size
  ·obtain ⟨f,rfl⟩:∃ f',f=f'+1:=⟨f-1,by omega⟩;have hnx:∀ ty,(Instr.next (.pointer (some ⟨w1.heap.size,0,none⟩)) true ty).run Tryz.prog wr=_:=fun ty=>run_next_any_at wr w1.heap.size s pos ty hit hp
   have hr0:=decode_le' s pos;have hw1:=width_pos s pos;have hw2:=width_fits s pos hp;have hbw2:=below_iterAt hbw (k:=w1.heap.size) (by omega) s (pos+(Utf8.decode s pos).2);have hI2:=hI.iterAt hit (pos+(Utf8.decode s pos).2);have hit2:=iterAt_heap wr w1.heap.size s pos (pos+(Utf8.decode s pos).2) hit;have hsz2:w1.heap.size<(wr.iterAt w1.heap.size s (pos+(Utf8.decode s pos).2)).heap.size:=by rw [iterAt_size];omega
   have HP:Hid (wr.iterPos w1.heap.size=pos):=iterPos_of' hit;have hne:s.data.toList.drop pos≠[]:=by
    intro e;have:=congrArg List.length e;rw [List.length_drop,← size_data] at this;simp at this;omega
   have hA2:=HA.out;rw [quoL_step f _ hne,← List.append_assoc] at hA2;have hpl:=pieceL_len (s.data.toList.drop pos);have hdd:(dec (s.data.toList.drop pos)).2=(Utf8.decode s pos).2:=by rw [decode_dec]
   rw [hdd,List.drop_drop] at hA2;obtain ⟨pc,hpc⟩:∃ pc,pieceL (s.data.toList.drop pos)=pc:=⟨_,rfl⟩;rw [hpc] at hA2 hpl;have HPC:Hid (pieceL (s.data.toList.drop pos)=pc):=hpc;have HBR:Hid (brk s pos ((Utf8.decode s pos).1:Int)=brkL (s.data.toList.drop pos)):=brk_brkL s pos;have HDR:Hid ((Utf8.decode s pos).1=(dec (s.data.toList.drop pos)).1):=by show _=_;rw [decode_dec]
   have HBY:Hid (∀ h,(s[pos]'h).toNat=at0 (s.data.toList.drop pos) 0):=byteAt0 s pos;have hb0:at0 (s.data.toList.drop pos) 0<256:=at0_lt _ _;clear hpc hdd hne HA;have HA3:Hid (acc++pc++quoL f (List.drop (pos+(Utf8.decode s pos).2) s.data.toList)=quoL s.size s.data.toList):=hA2;clear hA2;generalize hW:wr.iterAt w1.heap.size s (pos+(Utf8.decode s pos).2)=W2 at *;clear hW hI hit hbw;generalize (Utf8.decode s pos).1=r at *;generalize (Utf8.decode s pos).2=wd at *;have hd2:Deb W2:=hd.below hbw2;go_wp2_with fail;refine (broken_any s pos r _ (by omega)).mono ?_;rintro e w' ⟨rfl,rfl⟩;rw [HBR.out];cases hbk:brkL (s.data.toList.drop pos) with
   | true =>
    have HQ:Hid (pc=[92,120]++hexL (at0 (s.data.toList.drop pos) 0)):=by
     show _=_;rw [← HPC.out,pieceL,if_pos hbk]
    clear hbk;go_wp2_with fail;rw [HBY.out];refine (quotedByte_any _ (by omega) _ hd2).mono ?_;rintro e w3 ⟨rfl,hb3⟩;rw [show (⟨(92::120::hexL (at0 (s.data.toList.drop pos) 0)).toArray⟩:ByteArray)=⟨pc.toArray⟩ by rw [HQ.out];rfl];have hI3:=builder_keep hI2 hb3;have hit3:w3.heap[w1.heap.size]?=some (.stringIter s (pos+wd)):=(hb3.block _ hsz2).trans hit2;have hbw3:=hbw2.trans (hb3.mono hbw2.size);have hsz3:w1.heap.size<w3.heap.size:=by have:=hb3.size;omega
    clear hI2 hit2 hbw2 hb3 hsz2;have hcz:(Lib.byteCells ([34]++acc)).length≤10*pos+1:=by rw [Lib.byteCells_length];simp;omega
    go_wp2_with fail;refine (writeString_any w.heap.size w.heap.size _ _ _ hI3 (by rw [sizeL];omega) (by omega)).mono ?_;rintro e w4 ⟨rfl,h4,b4,k4⟩;have hit4:=k4.iter hit3 (by omega);rw [strL,← Lib.byteCells_append,List.append_assoc] at h4;have hb4:=hbw3.trans b4;clear hI3 hit3 hbw3 b4 k4;go_wp2_with fail;refine ⟨⟨pos+wd,f,acc++pc,.inr h4,hit4,hb4,by omega,by omega,by rw [List.length_append];omega,HA3⟩,?_⟩;rw [HP.out,iterPos_of' hit4];omega
   | false =>
    have HQ:Hid (pc=qR r):=by
     show _=_;rw [← HPC.out,pieceL,if_neg (by rw [hbk];decide),HDR.out]
    clear hbk;go_wp2_with fail;refine (quotedRune_any r hr0 _ hd2).mono ?_;rintro e w3 ⟨rfl,hb3⟩;rw [← HQ.out];have hI3:=builder_keep hI2 hb3;have hit3:w3.heap[w1.heap.size]?=some (.stringIter s (pos+wd)):=(hb3.block _ hsz2).trans hit2;have hbw3:=hbw2.trans (hb3.mono hbw2.size);have hsz3:w1.heap.size<w3.heap.size:=by have:=hb3.size;omega
    clear hI2 hit2 hbw2 hb3 hsz2;have hcz:(Lib.byteCells ([34]++acc)).length≤10*pos+1:=by rw [Lib.byteCells_length];simp;omega
    go_wp2_with fail;refine (writeString_any w.heap.size w.heap.size _ _ _ hI3 (by rw [sizeL];omega) (by omega)).mono ?_;rintro e w4 ⟨rfl,h4,b4,k4⟩;have hit4:=k4.iter hit3 (by omega);rw [strL,← Lib.byteCells_append,List.append_assoc] at h4;have hb4:=hbw3.trans b4;clear hI3 hit3 hbw3 b4 k4;go_wp2_with fail;refine ⟨⟨pos+wd,f,acc++pc,.inr h4,hit4,hb4,by omega,by omega,by rw [List.length_append];omega,HA3⟩,?_⟩;rw [HP.out,iterPos_of' hit4];omega
  ·have hps2:pos=s.size:=by omega
   subst hps2;have hA2:=HA.out;rw [List.drop_eq_nil_of_le (by rw [← size_data];omega),quoL_end,List.append_nil] at hA2;have HA2:Hid (acc=quoL s.size s.data.toList):=hA2;clear hA2 HA;have hnx:∀ ty,(Instr.next (.pointer (some ⟨w1.heap.size,0,none⟩)) true ty).run Tryz.prog wr=_:=fun ty=>run_next_end_at wr w1.heap.size s s.size ty hit hp
   go_wp2_with fail;refine (writeByte_any w.heap.size w.heap.size _ 34 _ hI (by rw [Lib.byteCells_length];simp;omega) (by omega)).mono ?_;rintro e w2 ⟨rfl,h2,b2,_⟩;have hb2:=hbw.trans b2
   have h2':Lib.IsBuilderF 87 5 w.heap.size w.heap.size (Lib.byteCells (quoted s)) w2:=.inr (by
    have e:Lib.byteCells (quoted s)=Lib.byteCells ([34]++acc)++[.int .u8 34]:=by
     unfold quoted;rw [Lib.byteCells_append,← HA2.out];rfl
    rw [e];exact h2)
   have hsz2:=hb2.size;clear h2 b2 hI hit hbw hnx;go_wp2_with fail;refine (Tryz.Builder_String_any_k w.heap.size w.heap.size (quoted s) _ h2' (by omega)).mono ?_;rintro e w3 ⟨rfl,_,b3,_⟩;have hb3:=hb2.trans b3;clear b3 h2' hb2;go_wp2_with fail;go_ret;exact ⟨rfl,hb3⟩
def lowN (n:Nat):Nat:=if n / 32 % 2=1 then n else n+32
theorem low_bits (n:Nat) (h:n<256):bits .or .u8 (n:Int) 32=(lowN n:Int):=by
 have:∀ m:Fin 256,bits .or .u8 ((m.val:Nat):Int) 32=(lowN m.val:Int):=by decide +kernel
 exact this ⟨n,h⟩
theorem lowN_lt (n:Nat) (h:n<256):lowN n<256:=by unfold lowN;split<;>omega
theorem lower_any (n:Nat) (h:n<256) (w:World):Calls Tryz.prog 171 #[.int .u8 n] w fun e w'=>e=.returned (.int .u8 (lowN n))∧w'=w:=by
 have hb:=low_bits n h;go_enter Tryz.func171,Tryz.ntmps171;go_wp2_with fail;go_ret;exact ⟨rfl,rfl⟩
def hexV (n:Nat):Option Nat:=if 48≤n∧n≤57 then some (n-48) else if 97≤lowN n∧lowN n≤102 then some (lowN n-87) else none
def pu (max:Nat):Nat→List UInt8→Option Nat
 | n,[]=>some n
 | n,c::t=>match hexV c.toNat with
  | none=>none
  | some d=>if 16*n+d≤max then pu max (16*n+d) t else none
theorem cell_bytes (s:ByteArray) (w:World) (cap:Nat) (T:TypeId) (fz:Nat×Nat) (j:Nat) (hj:j<s.size):(w.alloc (.cells (bytesRow s cap) T fz)).cell? ⟨w.heap.size,j,none⟩=some (.int .u8 ((s.data.toList.getD j 0).toNat:Int)):=by
 have hj2:j<s.data.size:=hj;rw [cM,bytesRow_at s cap j hj2,List.getD_eq_getElem?_getD,Array.getElem?_toList,Array.getElem?_eq_getElem hj2];rfl
theorem pu_step {mx nv j:Nat} {l:List UInt8} (hj:j<l.length):pu mx nv (l.drop j)=match hexV (l.getD j 0).toNat with
  | none=>none
  | some d=>if 16*nv+d≤mx then pu mx (16*nv+d) (l.drop (j+1)) else none:=by
 rw [List.drop_eq_getElem_cons hj,pu,List.getD_eq_getElem?_getD,List.getElem?_eq_getElem hj];rfl
theorem size_ne (s:ByteArray) (h:0<s.size):(s.toList==[])=false:=by
 rw [beq_eq_false_iff_ne];intro e;have h2:s.toList=s.data.toList:=ByteArray.toList_eq _;rw [h2] at e;have h3:=size_data s;rw [e,List.length_nil] at h3;omega
end Go.Proofs.YtijpfbcippijoaaGreatDoor
