import Derived.Test.YtijpfbcippijoaaGreatDoorAl
import Derived.Test.YtijpfbcippijoaaGreatDoorGr121
import Derived.Deep.QuietTactic
import Derived.BigQuiet
import Derived.BigRegion
import Derived.WalkSpells
import Derived.Test.YtijpfbcippijoaaGreatDoorGr122
import Derived.Test.YtijpfbcippijoaaGreatDoorGr111
set_option maxHeartbeats 4000000
set_option maxRecDepth 100000
namespace Go.Proofs.YtijpfbcippijoaaGreatDoor
open Go.RowKit Go.Lib
def unqL (l:List UInt8):List UInt8×Nat×Int:=match readL l with
 | some (x,n)=>if quoted ⟨x.toArray⟩=l.take n then (x,n,0) else ([],0,13)
 | none=>([],0,13)
theorem list_of (l:List UInt8):(⟨l.toArray⟩:ByteArray).toList=l:=by rw [Go.ByteArray.toList_eq]
theorem take_of (s:ByteArray) (n:Nat):(s.extract 0 n).toList=s.data.toList.take n:=by rw [Go.ByteArray.toList_eq,extract_list];rfl
theorem below_dw {B:Nat} {w W:World} (h:Below B w W):Below B w W.drew:=h.trans ⟨rfl,rfl,rfl,lR _,fun _ _=>rfl⟩
theorem Deb.dw {w:World} (h:Deb w):Deb w.drew:=⟨h.cell⟩
theorem unquote_any (s:ByteArray) (hs:s.size≤34359738368) (w:World) (hd:Deb w) (he:Errs w) :
  Calls Tryz.prog 108 #[.string s] w fun e w'=>e=.returned (.tuple #[.string ⟨(unqL s.data.toList).1.toArray⟩,.int .i64 (unqL s.data.toList).2.1,.int .i64 (unqL s.data.toList).2.2])∧Below w.heap.size w w':=by
 go_enter Tryz.func108,Tryz.ntmps108;go_wp2_with fail;refine (readQuoted_any s (by omega) _ he).mono ?_;rintro e w1 ⟨hb1,⟨x,n,hr,hn,hx,rfl⟩|⟨hr,rfl⟩⟩
 ·have hd1:=hd.below hb1;have hqt:=take_of s n;have hxs:(⟨x.toArray⟩:ByteArray).size≤1099511627776:=by rw [sizeL];omega
  by_cases hq:quoted ⟨x.toArray⟩=s.data.toList.take n
  ·have HU:Hid (unqL s.data.toList=(x,n,0)):=by
    show _=_;unfold unqL;rw [hr];simp only;rw [if_pos hq]
   obtain ⟨qx,hqx⟩:∃ qx:ByteArray,(⟨(quoted ⟨x.toArray⟩).toArray⟩:ByteArray)=qx:=⟨_,rfl⟩;have hqt2:(qx.toList != (s.extract 0 n).toList)=false:=by rw [← hqx,list_of,hqt,hq];simp
   have HQX:Hid ((⟨(quoted ⟨x.toArray⟩).toArray⟩:ByteArray)=qx):=hqx;clear hqx hq hr hqt;obtain ⟨X,hX⟩:∃ X:ByteArray,(⟨x.toArray⟩:ByteArray)=X:=⟨_,rfl⟩;rw [hX] at HQX hxs;have HX:Hid ((⟨x.toArray⟩:ByteArray)=X):=hX;rw [hX];clear hX hx;go_upto_region 2 with fail
   go_cut [23] (fun c wx=>c=.bool false∧Below w.heap.size w wx)
   case first =>
    go_region_with (go_at_call 87;(refine (quote_any _ hxs _ ?_).mono ?_;(first|exact hd1.dw|exact hd1);rintro e w2 ⟨rfl,hb2⟩;rw [HQX.out];have hB2:Below w.heap.size w w2:=(by first|exact (below_dw hb1).trans (hb2.mono hb1.size)|exact hb1.trans (hb2.mono hb1.size));clear hb2))
    all_goals (go_wp2_with fail;go_meet;case rel=>exact ⟨congrArg Value.bool hqt2,by first|exact hB2|exact below_dw hB2⟩)
   case rest =>
    obtain ⟨rfl,hB⟩:=hcut;go_wp2_with fail;go_ret3;rw [HU.out,← HX.out];exact ⟨rfl,hB⟩
  ·have HU:Hid (unqL s.data.toList=([],0,13)):=by
    show _=_;unfold unqL;rw [hr];simp only;rw [if_neg hq]
   obtain ⟨qx,hqx⟩:∃ qx:ByteArray,(⟨(quoted ⟨x.toArray⟩).toArray⟩:ByteArray)=qx:=⟨_,rfl⟩;have hqt2:(qx.toList != (s.extract 0 n).toList)=true:=by rw [← hqx,list_of,hqt];simpa using hq
   have HQX:Hid ((⟨(quoted ⟨x.toArray⟩).toArray⟩:ByteArray)=qx):=hqx;clear hqx hq hr hqt;obtain ⟨X,hX⟩:∃ X:ByteArray,(⟨x.toArray⟩:ByteArray)=X:=⟨_,rfl⟩;rw [hX] at HQX hxs;have HX:Hid ((⟨x.toArray⟩:ByteArray)=X):=hX;rw [hX];clear hX hx;go_upto_region 2 with fail
   go_cut [23] (fun c wx=>c=.bool true∧Below w.heap.size w wx)
   case first =>
    go_region_with (go_at_call 87;(refine (quote_any _ hxs _ ?_).mono ?_;(first|exact hd1.dw|exact hd1);rintro e w2 ⟨rfl,hb2⟩;rw [HQX.out];have hB2:Below w.heap.size w w2:=(by first|exact (below_dw hb1).trans (hb2.mono hb1.size)|exact hb1.trans (hb2.mono hb1.size));clear hb2))
    all_goals (go_wp2_with fail;go_meet;case rel=>exact ⟨congrArg Value.bool hqt2,by first|exact hB2|exact below_dw hB2⟩)
   case rest =>
    obtain ⟨rfl,hB⟩:=hcut;go_wp2_with fail;go_ret3;rw [HU.out];exact ⟨rfl,hB⟩
 ·have HU:Hid (unqL s.data.toList=([],0,13)):=by
   show _=_;unfold unqL;rw [hr]
  clear hr;go_wp2_with fail;go_quiet (fail);go_wp2_with fail;go_ret3;rw [HU.out];exact ⟨rfl,hb1.trans ⟨rfl,rfl,rfl,lR _,fun _ _=>rfl⟩⟩
end Go.Proofs.YtijpfbcippijoaaGreatDoor
namespace Go.Proofs.YtijpfbcippijoaaGreatDoor
open Go.RowKit Go.Lib Sp
theorem index1_any (s:ByteArray) (c:UInt8) (w:World):Calls Tryz.prog 136 #[.string s,.string ⟨#[c]⟩] w fun e w'=>e=.returned (.int .i64 (Lib.indexByte s.data.toList c))∧w'=w:=Any.stringslite_Index_one Tryz.lays219 s c w
def cut1 (l:List UInt8) (c:UInt8):List UInt8×List UInt8×Bool :=
 if Lib.indexByte l c<0 then (l,[],false) else (l.take (Lib.indexByte l c).toNat,l.drop ((Lib.indexByte l c).toNat+1),true)
theorem cut1_le (l:List UInt8) (c:UInt8):(cut1 l c).1.length≤l.length∧(cut1 l c).2.1.length≤l.length:=by
 unfold cut1;split
 ·simp
 ·simp only [List.length_take,List.length_drop];omega
theorem bs_id (s:ByteArray):bs s.data.toList=s:=by cases s;simp [bs]
theorem bs_list (l:List UInt8):(bs l).data.toList=l:=by simp [bs]
theorem bs_take (l:List UInt8) (n:Nat):(bs l).extract 0 n=bs (l.take n):=by
 rw [← bs_id ((bs l).extract 0 n),extract_list,bs_list];rfl
theorem bs_drop (l:List UInt8) (n:Nat):(bs l).extract n (bs l).size=bs (l.drop n):=by
 rw [← bs_id ((bs l).extract n (bs l).size),extract_list,bs_list,bs_size,List.take_length]
theorem cutIn_any (l:List UInt8) (c:UInt8) (hl:l.length≤4294967296) (w:World):Calls Tryz.prog 128 #[.string (bs l),.string ⟨#[c]⟩] w fun e w'=>e=.returned (.tuple #[.string (bs (cut1 l c).1),.string (bs (cut1 l c).2.1),.bool (cut1 l c).2.2])∧Below w.heap.size w w':=by
 have HI:Hid (∀ w:World,Calls Tryz.prog 136 #[.string (bs l),.string ⟨#[c]⟩] w fun e w'=>e=.returned (.int .i64 (Lib.indexByte l c))∧w'=w):=fun w=>by
  have:=index1_any (bs l) c w;rw [bs_list] at this;exact this
 obtain ⟨x,y,z,hc⟩:∃ x y z,cut1 l c=(x,y,z):=⟨_,_,_,rfl⟩;rw [hc];unfold cut1 at hc;have hsz:=bs_size l;rcases index_lt l c with hi|hi
 ·by_cases h0:Lib.indexByte l c<0
  ·rw [if_pos h0] at hc;simp only [Prod.mk.injEq] at hc;obtain ⟨rfl,rfl,rfl⟩:=hc;generalize Lib.indexByte l c=i at *;go_enter Tryz.func128,Tryz.ntmps128;go_wp2_with fail;refine (HI.out _).mono ?_;rintro e w1 ⟨rfl,rfl⟩;go_wp2_with fail;go_ret3;exact ⟨rfl,bE _ _⟩
  ·rw [if_neg h0] at hc;simp only [Prod.mk.injEq] at hc;obtain ⟨hx,hy,rfl⟩:=hc;generalize Lib.indexByte l c=i at *;obtain ⟨k,rfl⟩:=Int.eq_ofNat_of_zero_le (show 0≤i by omega);simp only [Int.toNat_natCast] at hx hy;have c1:(0:Int)≤(k:Int):=by omega
   have c2:(k:Int)≤((bs l).size:Int):=by omega
   have c3:(0:Int)≤(k:Int)+1:=by omega
   have c4:((k:Int)+1)≤((bs l).size:Int):=by omega
   have e1:(bs l).extract 0 k=bs x:=by rw [bs_take,hx]
   have e2:(bs l).extract (k+1) (bs l).size=bs y:=by rw [bs_drop,hy]
   have hS:(bs l).size≤4294967296:=by omega
   clear hx hy hsz hi;generalize bs l=S at *;go_enter Tryz.func128,Tryz.ntmps128;go_wp2_with fail;refine (HI.out _).mono ?_;rintro e w1 ⟨rfl,rfl⟩;go_wp2_with fail;go_quiet (fail);go_wp2_with fail;go_ret3;exact ⟨rfl,below_drewN (bE _ _) _⟩
 ·have h0:Lib.indexByte l c<0:=by omega
  rw [if_pos h0] at hc;simp only [Prod.mk.injEq] at hc;obtain ⟨rfl,rfl,rfl⟩:=hc;generalize Lib.indexByte l c=i at *;go_enter Tryz.func128,Tryz.ntmps128;go_wp2_with fail;refine (HI.out _).mono ?_;rintro e w1 ⟨rfl,rfl⟩;go_wp2_with fail;go_ret3;exact ⟨rfl,bE _ _⟩
theorem cutS_any (l:List UInt8) (c:UInt8) (hl:l.length≤4294967296) (w:World):Calls Tryz.prog 105 #[.string (bs l),.string ⟨#[c]⟩] w fun e w'=>e=.returned (.tuple #[.string (bs (cut1 l c).1),.string (bs (cut1 l c).2.1),.bool (cut1 l c).2.2])∧Below w.heap.size w w':=by
 have HI:Hid (∀ w:World,Calls Tryz.prog 128 #[.string (bs l),.string ⟨#[c]⟩] w fun e w'=>e=.returned (.tuple #[.string (bs (cut1 l c).1),.string (bs (cut1 l c).2.1),.bool (cut1 l c).2.2])∧Below w.heap.size w w'):=cutIn_any l c hl;generalize bs (cut1 l c).1=x at *;generalize bs (cut1 l c).2.1=y at *;generalize (cut1 l c).2.2=z at *;go_enter Tryz.func105,Tryz.ntmps105;go_wp2_with fail;refine (HI.out _).mono ?_;rintro e w1 ⟨rfl,hb1⟩;go_wp2_with fail;go_ret3;exact ⟨rfl,hb1⟩
def numP (l:List UInt8):Int:=match Lib.atoiAll l with
 | .ok v=>v
 | _=>-1
theorem atoi_any (l:List UInt8) (hl:l.length≤281474976710656) (w:World) (he:Errs w) :
  Calls Tryz.prog 129 #[.string (bs l)] w fun e w'=>(∃ v,numP l=v∧e=.returned (.tuple #[.int .i64 v,.nilIface]))∧Below w.heap.size w w'∨((∃ v T u,(numP l=-1)∧e=.returned (.tuple #[.int .i64 v,.iface T u]))∧Below w.heap.size w w'):=by
 obtain ⟨T,u,hs1,hs2⟩:=he.syn;obtain ⟨T2,u2,hr1,hr2⟩:=he.rng;cases ha:Lib.atoiAll l with
 | ok v =>
  refine (Any.strconv_Atoi_ok Tryz.lays172 (bs l) (by rw [bs_size];omega) v (by rw [bs_list];exact ha) w).mono ?_;rintro e w' ⟨rfl,h⟩;refine .inl ⟨⟨v,by unfold numP;rw [ha],rfl⟩,?_⟩;rcases h with rfl|⟨t,rfl⟩
  ·exact bE _ _
  ·exact Lib.bytesWorld_below w _ t
 | «syntax» =>
  refine (Any.strconv_Atoi_syntax Tryz.lays172 (bs l) (by rw [bs_size];omega) (by rw [bs_list];exact ha) _ w hs1 (.inr ⟨T,u,rfl⟩)).mono ?_;rintro e w' ⟨N,rfl,_,_,hb⟩;exact .inr ⟨⟨_,_,_,by unfold numP;rw [ha],rfl⟩,hb⟩
 | range =>
  refine (Any.strconv_Atoi_range Tryz.lays172 (bs l) (by rw [bs_size];omega) (by rw [bs_list];exact ha) _ w hr1 (.inr ⟨T2,u2,rfl⟩)).mono ?_;rintro e w' ⟨N,rfl,_,_,hb⟩;exact .inr ⟨⟨_,_,_,by unfold numP;rw [ha],rfl⟩,hb⟩
theorem readNumber_any (l:List UInt8) (hl:l.length≤281474976710656) (w:World) (he:Errs w) :
  Calls Tryz.prog 107 #[.string (bs l)] w fun e w'=>e=.returned (.int .i64 (numP l))∧Below w.heap.size w w':=by
 have HA:Hid (∀ w':World,Below w.heap.size w w'→Calls Tryz.prog 129 #[.string (bs l)] w' fun e w''=>(∃ v,numP l=v∧e=.returned (.tuple #[.int .i64 v,.nilIface]))∧Below w'.heap.size w' w''∨((∃ v T u,(numP l=-1)∧e=.returned (.tuple #[.int .i64 v,.iface T u]))∧Below w'.heap.size w' w'')):=fun w' hb=>atoi_any l hl w' (he.below hb)
 clear hl he;generalize numP l=r at *;go_enter Tryz.func107,Tryz.ntmps107;go_wp2_with fail;refine (HA.out _ (bE _ _)).mono ?_;rintro e w1 (⟨⟨v,rfl,rfl⟩,hb1⟩|⟨⟨v,T,u,rfl,rfl⟩,hb1⟩)
 ·go_wp2_with fail;go_ret;exact ⟨rfl,hb1⟩
 ·go_wp2_with fail;go_ret;exact ⟨rfl,hb1⟩
def idP (l:List UInt8):Int×Int:=if l=[45] then (0,0) else (numP (cut1 l 46).1,numP (cut1 l 46).2.1)
theorem readID_any (l:List UInt8) (hl:l.length≤4294967296) (w:World) (he:Errs w) :
  Calls Tryz.prog 106 #[.string (bs l)] w fun e w'=>e=.returned (.agg #[.int .i64 (idP l).1,.int .i64 (idP l).2])∧Below w.heap.size w w':=by
 have hlist:(bs l).toList=l:=list_of l;by_cases h45:l=[45]
 ·subst h45;go_enter Tryz.func106,Tryz.ntmps106;go_wp2_with fail;refine bodyPost_ret (v:=.agg #[.int .i64 0,.int .i64 0]) (by simp [results,Tryz.results106,go_sem]) rfl ⟨rfl,(bE _ _).alloc (lR _) _⟩
 ·obtain ⟨x,y,hxy⟩:∃ x y,idP l=(x,y):=⟨_,_,rfl⟩;rw [hxy];unfold idP at hxy;rw [if_neg h45] at hxy;simp only [Prod.mk.injEq] at hxy;obtain ⟨hx,hy⟩:=hxy;have hle:=cut1_le l 46;have HC:Hid (∀ w:World,Calls Tryz.prog 105 #[.string (bs l),.string ⟨#[46]⟩] w fun e w'=>e=.returned (.tuple #[.string (bs (cut1 l 46).1),.string (bs (cut1 l 46).2.1),.bool (cut1 l 46).2.2])∧Below w.heap.size w w'):=cutS_any l 46 hl;have HX:Hid (∀ w':World,Below w.heap.size w w'→Calls Tryz.prog 107 #[.string (bs (cut1 l 46).1)] w' fun e w''=>e=.returned (.int .i64 x)∧Below w'.heap.size w' w''):=fun w' hb=>hx▸readNumber_any _ (by omega) w' (he.below hb)
  have HY:Hid (∀ w':World,Below w.heap.size w w'→Calls Tryz.prog 107 #[.string (bs (cut1 l 46).2.1)] w' fun e w''=>e=.returned (.int .i64 y)∧Below w'.heap.size w' w''):=fun w' hb=>hy▸readNumber_any _ (by omega) w' (he.below hb)
  have t1:((bs l).toList==[45])=false:=by rw [hlist];exact nB h45
  have t2:((bs l).toList==(⟨#[45]⟩:ByteArray).toList)=false:=by rw [hlist];exact nB (by rw [show (⟨#[45]⟩:ByteArray).toList=[45] from list_of [45]];exact h45)
  clear hx hy hle he h45 hlist;generalize bs (cut1 l 46).1=u at *;generalize bs (cut1 l 46).2.1=v at *;generalize (cut1 l 46).2.2=z at *;generalize bs l=S at *;have hw2:=(bE w.heap.size w).alloc (lR _) (Obj.cells #[.int .i64 0,.int .i64 0] 38);go_enter Tryz.func106,Tryz.ntmps106;go_wp2_with fail;refine (HC.out _).mono ?_;rintro e w1 ⟨rfl,hb1⟩;have hB1:=hw2.trans (hb1.mono hw2.size);have x1:w1.heap[w.heap.size]?=some (Obj.cells #[.int .i64 0,.int .i64 0] 38):=(hb1.block _ (by simp)).trans (by show (w.heap.push _)[w.heap.size]?=_;simp);clear hw2 hb1;go_wp2_with fail;refine (HX.out _ hB1).mono ?_;rintro e w2 ⟨rfl,hb2⟩;have hB2:=hB1.trans (hb2.mono hB1.size);have x2:=(hb2.block _ (gA x1)).trans x1;clear hB1 hb2 x1;go_wp2_with fail;refine (HY.out _ hB2).mono ?_;rintro e w3 ⟨rfl,hb3⟩;have hB3:=hB2.trans (hb3.mono hB2.size);have x3:=(hb3.block _ (gA x2)).trans x2;clear hB2 hb3 x2;have d0:w3.cell? ⟨w.heap.size,0,none⟩=some (.int .i64 0):=by rw [cH x3];rfl
  have d1:w3.cell? ⟨w.heap.size,1,none⟩=some (.int .i64 0):=by rw [cH x3];rfl
  have z0:w3.frozen? ⟨w.heap.size,0,none⟩=false:=Lib.frozen_of_heap x3 0;have z1:w3.frozen? ⟨w.heap.size,1,none⟩=false:=Lib.frozen_of_heap x3 1;have x4:=(heap_setCell_same _ w.heap.size 0 _ _ (.int .i64 x) x3).trans (by simp;rfl);have x5:=(heap_setCell_same _ w.heap.size 1 _ _ (.int .i64 y) x4).trans (by simp;rfl);have r0:((w3.setCell ⟨w.heap.size,0,none⟩ (.int .i64 x)).setCell ⟨w.heap.size,1,none⟩ (.int .i64 y)).cell? ⟨w.heap.size,0,none⟩=some (.int .i64 x):=by rw [cH x5];rfl
  have r1:((w3.setCell ⟨w.heap.size,0,none⟩ (.int .i64 x)).setCell ⟨w.heap.size,1,none⟩ (.int .i64 y)).cell? ⟨w.heap.size,1,none⟩=some (.int .i64 y):=by rw [cH x5];rfl
  have hB5:=(hB3.setCell (p:=⟨w.heap.size,0,none⟩) (lR _) (.int .i64 x)).setCell (p:=⟨w.heap.size,1,none⟩) (lR _) (.int .i64 y);clear x4 x5 x3;go_wp2_with fail;refine bodyPost_ret (v:=.agg #[.int .i64 x,.int .i64 y]) (by simp [results,Tryz.results106,go_sem,r0,r1]) rfl ⟨rfl,hB5⟩
theorem ownF_at {w:World} {B:Nat} {a:Option Addr} {m cap:Nat} {l:List (Int×Int)} (h:OwnF rngV 2 76 w B (.slice a m cap) l):∀ g off,a=some ⟨g,off,none⟩→B≤g:=fun g off ha=>by
 subst ha;rcases h.2 with ⟨e,_⟩|⟨g',cap',cur,e,h1,_⟩
 ·cases e
 ·simp only [Value.slice.injEq,Option.some.injEq,Addr.mk.injEq] at e;omega
def oneP (l:List UInt8):Int×Int:=(numP (cut1 l 45).1,numP (cut1 l 45).2.1)
def rngsP:Nat→List UInt8→List (Int×Int)
 | 0,_=>[]
 | f+1,l=>oneP (cut1 l 44).1::(if (cut1 l 44).2.2=true then rngsP f (cut1 l 44).2.1 else [])
def restP (more:Bool) (j:Nat) (l:List UInt8):List (Int×Int):=if more=true then rngsP (32769-j) l else []
theorem restP_step (j:Nat) (hj:j≤32768) (l:List UInt8):restP true j l=oneP (cut1 l 44).1::restP (cut1 l 44).2.2 (j+1) (cut1 l 44).2.1:=by
 unfold restP;rw [if_pos rfl,show 32769-j=(32769-(j+1))+1 by omega,rngsP]
theorem restP_full (more:Bool) (j:Nat) (hj:32768<j) (l:List UInt8):restP more j l=[]:=by
 unfold restP;split
 ·rw [show 32769-j=0 by omega];rfl
 ·rfl
def lenV:Value→Nat
 | .slice _ n _=>n
 | _=>0
theorem readRanges_any (l:List UInt8) (hl:l.length≤4294967296) (w:World) (he:Errs w) :
  Calls Tryz.prog 109 #[.string (bs l)] w fun e w'=>∃ a m cap,e=.returned (.slice a m cap)∧Rng w' a m cap (rngsP 32769 l)∧(∀ g off,a=some ⟨g,off,none⟩→w.heap.size≤g)∧Below w.heap.size w w':=by
 have HC:Hid (∀ (l:List UInt8) (c:UInt8) (w:World),l.length≤4294967296→Calls Tryz.prog 105 #[.string (bs l),.string ⟨#[c]⟩] w fun e w'=>e=.returned (.tuple #[.string (bs (cut1 l c).1),.string (bs (cut1 l c).2.1),.bool (cut1 l c).2.2])∧Below w.heap.size w w'):=fun l c w h=>cutS_any l c h w
 have HX:Hid (∀ (l:List UInt8) (w':World),l.length≤4294967296→Below w.heap.size w w'→Calls Tryz.prog 107 #[.string (bs l)] w' fun e w''=>e=.returned (.int .i64 (numP l))∧Below w'.heap.size w' w''):=fun l w' h hb=>readNumber_any _ (by omega) w' (he.below hb)
 have HR0:Hid (restP true 0 l=rngsP 32769 l):=rfl;generalize rngsP 32769 l=R at *;clear he;go_enter Tryz.func109,Tryz.ntmps109;go_wp2_with fail;go_loopw [0,3,4,5,6,7,8] (fun vs vl vm _ _ _ _ W=>∃ (acc:List (Int×Int)) (u:List UInt8) (more:Bool),vs=.string (bs u)∧vm=.bool more∧u.length≤4294967296∧acc.length≤32769∧OwnF rngV 2 76 W w.heap.size vl acc∧Below w.heap.size w W∧Hid (acc++restP more acc.length u=R)) (fun _ vl _ _ _ _ _ _=>32770-lenV vl)
 case atStart=>exact ⟨[],l,true,rfl,rfl,hl,by simp,ownF_nil _ _,bE _ _,HR0⟩
 case round =>
  obtain ⟨acc,u,more,rfl,rfl,hu,hacc,ho,hB,HR⟩:=hrel;obtain ⟨ao,co,rfl⟩:=ho.shape;have fin:∀ hR:acc=R,∃ a m cap,Ending.returned (.slice ao acc.length co)=Ending.returned (.slice a m cap)∧Rng wr a m cap R∧(∀ g off,a=some ⟨g,off,none⟩→w.heap.size≤g)∧Below w.heap.size w wr:=fun hR=>⟨ao,acc.length,co,rfl,hR▸rng_of_rw (ho.rw_ layRo),ownF_at ho,hB⟩
  cases more with
  | false =>
   have hR:acc=R:=by have:=HR.out;unfold restP at this;simpa using this
   have HF:Hid (∃ a m cap,Ending.returned (.slice ao acc.length co)=Ending.returned (.slice a m cap)∧Rng wr a m cap R∧(∀ g off,a=some ⟨g,off,none⟩→w.heap.size≤g)∧Below w.heap.size w wr):=fin hR;clear fin hR HR;go_wp2_with fail;go_ret;exact HF.out
  | true =>
   by_cases hj:32768<acc.length
   ·have hR:acc=R:=by have:=HR.out;rw [restP_full _ _ hj] at this;simpa using this
    have HF:Hid (∃ a m cap,Ending.returned (.slice ao acc.length co)=Ending.returned (.slice a m cap)∧Rng wr a m cap R∧(∀ g off,a=some ⟨g,off,none⟩→w.heap.size≤g)∧Below w.heap.size w wr):=fin hR;have hj2:¬ (acc.length:Int)≤32768:=by omega
    clear fin hR HR;go_wp2_with fail;go_ret;exact HF.out
   ·have HN:Hid ((acc++[oneP (cut1 u 44).1])++restP (cut1 u 44).2.2 (acc++[oneP (cut1 u 44).1]).length (cut1 u 44).2.1=R):=by
     have:=HR.out;rw [restP_step _ (by omega)] at this;show _=_;rw [← this];simp
    have hj2:(acc.length:Int)≤32768:=by omega
    have hle:=cut1_le u 44;have hle2:=cut1_le (cut1 u 44).1 45;have H1:Hid (∀ w:World,Calls Tryz.prog 105 #[.string (bs u),.string ⟨#[44]⟩] w fun e w'=>e=.returned (.tuple #[.string (bs (cut1 u 44).1),.string (bs (cut1 u 44).2.1),.bool (cut1 u 44).2.2])∧Below w.heap.size w w'):=fun w=>HC.out u 44 w hu
    have H2:Hid (∀ w:World,Calls Tryz.prog 105 #[.string (bs (cut1 u 44).1),.string ⟨#[45]⟩] w fun e w'=>e=.returned (.tuple #[.string (bs (cut1 (cut1 u 44).1 45).1),.string (bs (cut1 (cut1 u 44).1 45).2.1),.bool (cut1 (cut1 u 44).1 45).2.2])∧Below w.heap.size w w'):=fun w=>HC.out _ 45 w (by omega)
    have H3:=fun w' hb=>HX.out (cut1 (cut1 u 44).1 45).1 w' (by omega) hb
    have H4:=fun w' hb=>HX.out (cut1 (cut1 u 44).1 45).2.1 w' (by omega) hb
    have h3:Hid (∀ w':World,Below w.heap.size w w'→Calls Tryz.prog 107 #[.string (bs (cut1 (cut1 u 44).1 45).1)] w' fun e w''=>e=.returned (.int .i64 (oneP (cut1 u 44).1).1)∧Below w'.heap.size w' w''):=H3;have h4:Hid (∀ w':World,Below w.heap.size w w'→Calls Tryz.prog 107 #[.string (bs (cut1 (cut1 u 44).1 45).2.1)] w' fun e w''=>e=.returned (.int .i64 (oneP (cut1 u 44).1).2)∧Below w'.heap.size w' w''):=H4;have hu2:(cut1 u 44).2.1.length≤4294967296:=by omega
    clear fin HR H3 H4 hle hle2;generalize oneP (cut1 u 44).1=r at *;generalize bs (cut1 (cut1 u 44).1 45).1=p1 at *;generalize bs (cut1 (cut1 u 44).1 45).2.1=p2 at *;generalize (cut1 (cut1 u 44).1 45).2.2=p3 at *;generalize bs (cut1 u 44).1=p4 at *;generalize (cut1 u 44).2.1=v at *;generalize (cut1 u 44).2.2=mo at *;obtain ⟨lo,hi⟩:=r;simp only at h3 h4;go_wp2_with fail;refine (H1.out _).mono ?_;rintro e w1 ⟨rfl,hb1⟩;have hB1:=hB.trans (hb1.mono hB.size);have ho1:=ho.below hb1;clear hb1 hB ho H1;go_wp2_with fail;refine (H2.out _).mono ?_;rintro e w2 ⟨rfl,hb2⟩;have hB2:=hB1.trans (hb2.mono hB1.size);have ho2:=ho1.below hb2;clear hb2 hB1 ho1 H2;go_wp2_with fail;refine (h3.out _ hB2).mono ?_;rintro e w3 ⟨rfl,hb3⟩;have hB3:=hB2.trans (hb3.mono hB2.size);have ho3:=ho2.below hb3;clear hb3 hB2 ho2 h3;go_wp2_with fail;refine (h4.out _ hB3).mono ?_;rintro e w4 ⟨rfl,hb4⟩;have hB4:=hB3.trans (hb4.mono hB3.size);have ho4:=ho3.below hb4;clear hb4 hB3 ho3 h4;obtain ⟨g5,cap5,w6,hr,ho6,hb6,_,_⟩:=appendF_one kindRo layRo ho4 hB4.size (lo,hi) #[.int .i64 lo,.int .i64 hi] rfl 76 (by omega) (by omega) 42;have hb7:Below w.heap.size w w6:=hB4.trans hb6;clear hb6 ho4 hB4;go_wp2_with (at_builtin;refine wpList_append_hr rfl _ _ 42 rfl _ _ rfl rfl hr ?_);go_roundw
    case rel=>exact ⟨acc++[(lo,hi)],v,mo,rfl,rfl,hu2,by simp;omega,by simpa using ho6,hb7,HN⟩
    case measure=>simp [lenV];omega
end Go.Proofs.YtijpfbcippijoaaGreatDoor
