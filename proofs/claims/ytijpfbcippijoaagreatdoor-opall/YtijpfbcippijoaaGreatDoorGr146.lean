import Derived.Test.YtijpfbcippijoaaGreatDoorAl
import Derived.Laws.RangeAny
import Derived.Laws.BitsLemmas
import Derived.Laws.Strings
import Derived.Test.YtijpfbcippijoaaGreatDoorProg
import Derived.WalkKit
import Derived.WalkSpells
import Derived.WalkLawsBesides
import Derived.Lib.OthersKept
import Derived.ProofKit
import Derived.OpenShut
import Derived.Deep.DeepHandedRow
import Derived.Lib.LaidTab
import Derived.Laws.OwnMore
import Derived.Laws.CopyOwn
import Derived.Maps.AppendAt
import Derived.Deep.QuietTactic
import Derived.BigQuiet
import Derived.BigRegion
import Derived.Deep.RegionWith
set_option maxHeartbeats 2000000
set_option maxRecDepth 100000
namespace Go.Proofs.YtijpfbcippijoaaGreatDoor
def clears (r:Int):Nat→Prop
 | 0=>True
 | 1=>¬ (0≤r∧r≤8)
 | 2=>¬ (0≤r∧r≤8)∧¬ (11≤r∧r≤31)
 | 3=>¬ (0≤r∧r≤8)∧¬ (11≤r∧r≤31)∧¬ (127≤r∧r≤159)
 | 4=>¬ (0≤r∧r≤8)∧¬ (11≤r∧r≤31)∧¬ (127≤r∧r≤159)∧¬ (64976≤r∧r≤65007)
 | _=>¬ (0≤r∧r≤8)∧¬ (11≤r∧r≤31)∧¬ (127≤r∧r≤159)∧¬ (64976≤r∧r≤65007)∧¬ (65279≤r∧r≤65279)
def okRune (r:Int):Bool:=decide (¬ (0≤r∧r≤8)∧¬ (11≤r∧r≤31)∧¬ (127≤r∧r≤159)∧¬ (64976≤r∧r≤65007)∧¬ (65279≤r∧r≤65279)∧r % 65536<65534)
theorem okRune_yes {r:Int} (h:¬ (0≤r∧r≤8)∧¬ (11≤r∧r≤31)∧¬ (127≤r∧r≤159)∧¬ (64976≤r∧r≤65007)∧¬ (65279≤r∧r≤65279)):decide (r % 65536<65534)=okRune r:=by
 unfold okRune;rw [Bool.eq_iff_iff];simp only [decide_eq_true_eq];omega
theorem okRune_no {r:Int} (h:(0≤r∧r≤8)∨(11≤r∧r≤31)∨(127≤r∧r≤159)∨(64976≤r∧r≤65007)∨(65279≤r∧r≤65279)):false=okRune r:=by
 unfold okRune;rw [eq_comm,decide_eq_false_iff_not];omega
theorem low16 (r:Int) (h0:0≤r) (h1:r≤1114111):bits .and .i32 r 65535=r % 65536:=bits_mask .i32 31 (by decide) wraps_i32 16 (by decide) r h0 (by omega)
def ef:ByteArray:=⟨#[239,191,189]⟩
def pre (s p:ByteArray):Bool:=if p.size≤s.size then (s.extract 0 p.size).toList==p.toList else false
def brk (s:ByteArray) (at':Nat) (r:Int):Bool:=if r=65533 then !pre (s.extract at' s.size) ef else false
def chk (s:ByteArray):Nat→Nat→Nat→Int×Int×Int
 | 0,_,n=>(n,0,0)
 | b+1,pos,n =>
  if pos<s.size then
   if brk s pos ((Utf8.decode s pos).1:Int)=true then (0,pos,10)
   else if okRune ((Utf8.decode s pos).1:Int)=true then chk s b (pos+(Utf8.decode s pos).2) (n+1)
   else (0,pos,11)
  else (n,0,0)
def check (s:ByteArray):Int×Int×Int:=chk s s.size 0 0
theorem chk_end (s:ByteArray) (b pos n:Nat) (h:¬ pos<s.size):chk s b pos n=((n:Int),0,0):=by
 cases b with
 | zero=>rfl
 | succ b=>simp [chk,h]
theorem decode_le' (s:ByteArray) (pos:Nat):(Utf8.decode s pos).1≤1114111:=by
 have hb:∀ k,(s.get! (pos+k)).toNat<256:=fun k=>(s.get! (pos+k)).toNat_lt
 have h0:=hb 0;have h1:=hb 1;have h2:=hb 2;have h3:=hb 3;simp only [Utf8.decode]
 repeat' split
 all_goals simp_all [Utf8.runeError,Utf8.valid]
 all_goals omega
theorem width_pos (s:ByteArray) (pos:Nat):1≤(Utf8.decode s pos).2:=by
 simp only [Utf8.decode]
 repeat' split
 all_goals simp_all
theorem width_fits (s:ByteArray) (pos:Nat) (h:pos<s.size):pos+(Utf8.decode s pos).2≤s.size:=by
 simp only [Utf8.decode]
 repeat' split
 all_goals simp_all
 all_goals omega
end Go.Proofs.YtijpfbcippijoaaGreatDoor
namespace Go.Proofs.YtijpfbcippijoaaGreatDoor
open Go.RowKit Go.Lib
theorem hasPrefix_any (s p:ByteArray) (w:World) :
  Calls Tryz.prog 114 #[.string s,.string p] w fun e w'=>e=.returned (.bool (pre s p))∧w'=w:=by
 by_cases h:p.size≤s.size
 ·go_enter Tryz.func114,Tryz.ntmps114;go_wp2;go_ret;exact ⟨congrArg (fun b=>Ending.returned (.bool b)) (by simp [pre,h]),rfl⟩
 ·go_enter Tryz.func114,Tryz.ntmps114;go_wp2;go_ret;exact ⟨congrArg (fun b=>Ending.returned (.bool b)) (by simp [pre,h]),rfl⟩
theorem broken_any (s:ByteArray) (k:Nat) (r:Int) (w:World) (hk:k≤s.size) :
  Calls Tryz.prog 84 #[.string s,.int .i64 k,.int .i32 r] w fun e w'=>e=.returned (.bool (brk s k r))∧w'=w:=by
 by_cases h:r=65533
 ·subst h;go_enter Tryz.func84,Tryz.ntmps84;go_wp2_with (go_at_call 114;refine (hasPrefix_any _ _ _).mono ?_;rintro e w' ⟨rfl,rfl⟩);go_ret;exact ⟨congrArg (fun b=>Ending.returned (.bool b)) (by simp [brk,ef]),rfl⟩
 ·have h1:(r==65533)=false:=by simp [h]
  go_enter Tryz.func84,Tryz.ntmps84;go_wp2_with (go_at_call 114;refine (hasPrefix_any _ _ _).mono ?_;rintro e w' ⟨rfl,rfl⟩);go_ret;exact ⟨congrArg (fun b=>Ending.returned (.bool b)) (by simp [brk,h]),rfl⟩
def barCells:Array Value:=#[.int .i32 0,.int .i32 8,.int .i32 11,.int .i32 31,.int .i32 127,.int .i32 159,.int .i32 64976,.int .i32 65007,.int .i32 65279,.int .i32 65279]
theorem idx0 (w:World):(Instr.index 164 (.agg barCells) (.int .i64 0)).run Tryz.prog w=.ok (.agg #[.int .i32 0,.int .i32 8]) w:=by kernel_rfl
theorem idx1 (w:World):(Instr.index 164 (.agg barCells) (.int .i64 1)).run Tryz.prog w=.ok (.agg #[.int .i32 11,.int .i32 31]) w:=by kernel_rfl
theorem idx2 (w:World):(Instr.index 164 (.agg barCells) (.int .i64 2)).run Tryz.prog w=.ok (.agg #[.int .i32 127,.int .i32 159]) w:=by kernel_rfl
theorem idx3 (w:World):(Instr.index 164 (.agg barCells) (.int .i64 3)).run Tryz.prog w=.ok (.agg #[.int .i32 64976,.int .i32 65007]) w:=by kernel_rfl
theorem idx4 (w:World):(Instr.index 164 (.agg barCells) (.int .i64 4)).run Tryz.prog w=.ok (.agg #[.int .i32 65279,.int .i32 65279]) w:=by kernel_rfl
theorem letIn_any (r:Int) (h0:0≤r) (h1:r≤1114111) (w:World) (fr:Nat×Nat) (t:TypeId) (hg:w.heap[0]?=some (.cells barCells t fr)) :
  Calls Tryz.prog 85 #[.int .i32 r] w fun e w'=>e=.returned (.bool (okRune r))∧Below w.heap.size w w':=by
 have i0:=idx0;have i1:=idx1;have i2:=idx2;have i3:=idx3;have i4:=idx4;have hl:=low16 r h0 h1;go_enter Tryz.func85,Tryz.ntmps85;go_wp2_with (refine wpList_load_row rfl 164 _ rfl 0 rfl t _ fr _ hg Tryz.underlying164 rfl (by kernel_rfl) ?_);clear hg;go_loopw [6] (fun i w'=>∃ k:Nat,k≤5∧i=.int .i64 k∧clears r k∧Below w.heap.size w w') (fun i _=>5-(RowKit.intOf i).toNat)
 case atStart=>exact ⟨0,by omega,rfl,trivial,bE _ _⟩
 case round =>
  obtain ⟨k,hk,rfl,hcl,hb⟩:=hrel;have hsz:=hb.size;have hk5:k=0∨k=1∨k=2∨k=3∨k=4∨k=5:=by omega
  rcases hk5 with rfl|rfl|rfl|rfl|rfl|rfl
  all_goals simp only [clears] at hcl
  ·go_wp2
   ·go_ret;exact ⟨congrArg (fun b=>Ending.returned (.bool b)) (okRune_no (by omega)),hb.alloc hsz _⟩
   all_goals exact ⟨⟨1,by omega,rfl,by simp only [clears];omega,hb.alloc hsz _⟩,by simp [RowKit.intOf]⟩
  ·go_wp2
   ·go_ret;exact ⟨congrArg (fun b=>Ending.returned (.bool b)) (okRune_no (by omega)),hb.alloc hsz _⟩
   all_goals exact ⟨⟨2,by omega,rfl,by simp only [clears];omega,hb.alloc hsz _⟩,by simp [RowKit.intOf]⟩
  ·go_wp2
   ·go_ret;exact ⟨congrArg (fun b=>Ending.returned (.bool b)) (okRune_no (by omega)),hb.alloc hsz _⟩
   all_goals exact ⟨⟨3,by omega,rfl,by simp only [clears];omega,hb.alloc hsz _⟩,by simp [RowKit.intOf]⟩
  ·go_wp2
   ·go_ret;exact ⟨congrArg (fun b=>Ending.returned (.bool b)) (okRune_no (by omega)),hb.alloc hsz _⟩
   all_goals exact ⟨⟨4,by omega,rfl,by simp only [clears];omega,hb.alloc hsz _⟩,by simp [RowKit.intOf]⟩
  ·go_wp2
   ·go_ret;exact ⟨congrArg (fun b=>Ending.returned (.bool b)) (okRune_no (by omega)),hb.alloc hsz _⟩
   all_goals exact ⟨⟨5,by omega,rfl,by simp only [clears];omega,hb.alloc hsz _⟩,by simp [RowKit.intOf]⟩
  ·go_wp2;go_ret;exact ⟨congrArg (fun b=>Ending.returned (.bool b)) (okRune_yes hcl),hb⟩
theorem check_any (s:ByteArray) (hs:s.size≤maxLen) (w:World) (fr:Nat×Nat) (t:TypeId) (hg:w.heap[0]?=some (.cells barCells t fr)) :
  Calls Tryz.prog 51 #[.string s] w fun e w' =>
   e=.returned (.tuple #[.int .i64 (check s).1,.int .i64 (check s).2.1,.int .i64 (check s).2.2])∧Below w.heap.size w w':=by
 unfold maxLen at hs;have hgl:0<w.heap.size:=(gA hg);go_enter Tryz.func51,Tryz.ntmps51;go_wp2_with fail;go_loopw [2] (fun n w'=>∃ pos b k:Nat,w'.heap[w.heap.size]?=some (.stringIter s pos)∧Below w.heap.size w w'∧n=.int .i64 k∧Hid (chk s b pos k=check s)∧k≤pos∧pos≤s.size∧s.size≤pos+b) (fun _ w'=>s.size-w'.iterPos w.heap.size)
 case atStart=>exact ⟨0,s.size,0,World.iter_heap _ _ _,(bE _ _).alloc (lR _) _,rfl,rfl,by omega,by omega,by omega⟩
 case round =>
  obtain ⟨pos,b,k,hit,hb,rfl,hc,hkp,hps,hbb⟩:=hrel;have hsz:=hb.size;have hbar:wr.heap[0]?=some (.cells barCells t fr):=(hb.block _ hgl).trans hg;by_cases hp:pos<s.size
  ·have hnx:∀ ty,(Instr.next (.pointer (some ⟨w.heap.size,0,none⟩)) true ty).run Tryz.prog wr=_:=fun ty=>run_next_any_at wr w.heap.size s pos ty hit hp
   have hr0:=decode_le' s pos;have hw1:=width_pos s pos;have hw2:=width_fits s pos hp;have hb2:Below w.heap.size w (wr.iterAt w.heap.size s (pos+(Utf8.decode s pos).2)):=below_iterAt hb (lR _) _ _;have hit2:=iterAt_heap wr w.heap.size s pos (pos+(Utf8.decode s pos).2) hit;generalize hW:wr.iterAt w.heap.size s (pos+(Utf8.decode s pos).2)=W2 at *;clear hW;obtain ⟨b,rfl⟩:∃ b',b=b'+1:=⟨b-1,by omega⟩;have hc1:chk s (b+1) pos k=check s:=hc;simp only [chk,hp,if_true] at hc1;generalize hr:(Utf8.decode s pos).1=r at *;generalize hwd:(Utf8.decode s pos).2=wd at *;have hsz2:=hb2.size;have hW2:w.heap.size<W2.heap.size:=(gA hit2);have hbar2:W2.heap[0]?=some (.cells barCells t fr):=(hb2.block _ hgl).trans hg;have HP:Hid (wr.iterPos w.heap.size=pos):=by simp [Hid,World.iterPos,hit]
   clear hr hwd hit hb hbar hc hsz;cases hbk:brk s pos (r:Int) with
   | true =>
    simp only [hbk,if_true] at hc1;have HC:Hid (((0:Int),(pos:Int),(10:Int))=check s):=hc1;clear hc1;go_wp2_with (go_at_call 84;refine (broken_any _ _ _ _ (by omega)).mono ?_;rintro e w' ⟨rfl,rfl⟩);go_ret3;rw [← HC.out];exact ⟨rfl,hb2⟩
   | false =>
    simp only [hbk,Bool.false_eq_true,if_false] at hc1;cases hok:okRune (r:Int) with
    | true =>
     simp only [hok,if_true] at hc1;have HC:Hid (chk s b (pos+wd) (k+1)=check s):=hc1;clear hc1;go_wp2_with (first|(go_at_call 84;refine (broken_any _ _ _ _ (by omega)).mono ?_;rintro e w' ⟨rfl,rfl⟩)|(go_at_call 85;refine (letIn_any _ (by omega) (by omega) _ fr t hbar2).mono ?_;rintro e w3 ⟨rfl,hb3⟩));have hit3:w3.heap[w.heap.size]?=some (.stringIter s (pos+wd)):=(hb3.block _ hW2).trans hit2;refine ⟨⟨pos+wd,b,k+1,hit3,hb2.trans (hb3.mono (by omega)),by go_num,HC,by omega,by omega,by omega⟩,?_⟩;rw [HP.out];have e3:w3.iterPos w.heap.size=pos+wd:=by simp [World.iterPos,hit3]
     omega
    | false =>
     simp only [hok,Bool.false_eq_true,if_false] at hc1;have HC:Hid (((0:Int),(pos:Int),(11:Int))=check s):=hc1;clear hc1;go_wp2_with (first|(go_at_call 84;refine (broken_any _ _ _ _ (by omega)).mono ?_;rintro e w' ⟨rfl,rfl⟩)|(go_at_call 85;refine (letIn_any _ (by omega) (by omega) _ fr t hbar2).mono ?_;rintro e w3 ⟨rfl,hb3⟩));go_ret3;rw [← HC.out];exact ⟨rfl,hb2.trans (hb3.mono (by omega))⟩
  ·have hnx:∀ ty,(Instr.next (.pointer (some ⟨w.heap.size,0,none⟩)) true ty).run Tryz.prog wr=_:=fun ty=>run_next_end_at wr w.heap.size s pos ty hit hp
   have hc1:chk s b pos k=check s:=hc;rw [chk_end s b pos k hp] at hc1;have HC:Hid (((k:Int),(0:Int),(0:Int))=check s):=hc1;clear hc1 hc;go_wp2_with fail;go_ret3;rw [← HC.out];exact ⟨rfl,hb⟩
theorem check_eq {n p c:Int} (s:ByteArray) (hs:s.size≤maxLen) (h:check s=(n,p,c)) (w:World) (fr:Nat×Nat) (t:TypeId) (hg:w.heap[0]?=some (.cells barCells t fr)) :
  Calls Tryz.prog 51 #[.string s] w fun e w'=>e=.returned (.tuple #[.int .i64 n,.int .i64 p,.int .i64 c])∧Below w.heap.size w w':=by
 have:=check_any s hs w fr t hg;rw [h] at this;exact this
theorem bar_below {W W':World} {B:Nat} {cs:Array Value} {t:TypeId} {fr:Nat×Nat} (hb:Below B W W') (hB:0<B) (hg:W.heap[0]?=some (.cells cs t fr)) :
  W'.heap[0]?=some (.cells cs t fr):=(hb.block _ hB).trans hg
end Go.Proofs.YtijpfbcippijoaaGreatDoor
namespace Go.Proofs.YtijpfbcippijoaaGreatDoor
open Go.ChangeShapes Go.WideShapes Go.ChangeAt Go.RowKit
theorem own:ownKnob Tryz.prog.godebug=none:=by kernel_rfl
theorem gBar : Tryz.prog.globalNamed "redraft/utext.barred" = some 0 := by kernel_rfl
theorem gBarType:(Tryz.prog.globals[0]?).map (·.type)=some 164:=by kernel_rfl
theorem cellsArr:Tryz.prog.cellsOf 164=10:=by kernel_rfl
theorem cellsStr:Tryz.prog.cellsOf 163=2:=by kernel_rfl
theorem cells32:Tryz.prog.cellsOf 21=1:=by kernel_rfl
theorem pairCells {H:Type} {enc:TypeId×Value→H} {W:World} {base m:Nat} {sp:Nat→Bool} {held:Bool} {l:List Value} {lo hi:Int} {p:List MemPlace}
  (h:DataW.trod enc Tryz.prog W base sp held m 163 l=some (.agg [.lit (.int .i32 lo),.lit (.int .i32 hi)],p)):l=[.int .i32 lo,.int .i32 hi]:=by
 obtain ⟨y0,y1,n,hx,hl,h0,h1⟩:=trod_struct2 Tryz.underlying163 h;rw [cellsStr] at hl;simp only [cells32] at h0 h1;obtain ⟨a,e0,f0,_⟩:=DataW.trod_int Tryz.underlying21 h0;obtain ⟨b,e1,f1,_⟩:=DataW.trod_int Tryz.underlying21 h1;subst f0 f1;simp only [Prod.mk.injEq,DataW.agg.injEq,List.cons.injEq,DataW.lit.injEq,Lit.int.injEq] at hx;obtain ⟨⟨⟨_,ra⟩,⟨_,rb⟩,_⟩,_⟩:=hx;subst ra rb
 match l,hl,e0,e1 with
 | [x,y],_,e0,e1 =>
  simp at e0 e1;simp [e0,e1]
theorem table {W : World} {cs0 : Array Value} {f0 : Nat} {p0 : List MemPlace} (hv0 : World.var? Tryz.prog W "redraft/utext.barred" = some cs0)
  (hd0:DataW.trod (fun _=>()) Tryz.prog W 0 (fun _=>true) false f0 164 cs0.toList=some (.agg [.agg [.lit (.int .i32 0),.lit (.int .i32 8)],.agg [.lit (.int .i32 11),.lit (.int .i32 31)],.agg [.lit (.int .i32 127),.lit (.int .i32 159)],.agg [.lit (.int .i32 64976),.lit (.int .i32 65007)],.agg [.lit (.int .i32 65279),.lit (.int .i32 65279)]],p0)) :
  ∃ t fr,W.heap[0]?=some (.cells barCells t fr):=by
 obtain ⟨xs,m,_,hx,hlen,hn,hel⟩:=DataW.trod_array Tryz.underlying164 hd0;rw [cellsArr] at hlen;rw [cellsStr] at hel;have hcs:cs0.toList=barCells.toList:=by
  match xs,hn,hx with
  | [x0,x1,x2,x3,x4],_,hx =>
   simp only [Prod.mk.injEq,DataW.agg.injEq,List.map_cons,List.map_nil,List.cons.injEq] at hx;obtain ⟨⟨r0,r1,r2,r3,r4,_⟩,_⟩:=hx;have q0:=pairCells ((hel 0 (by decide)).trans (congrArg some (Prod.ext r0.symm rfl)));have q1:=pairCells ((hel 1 (by decide)).trans (congrArg some (Prod.ext r1.symm rfl)));have q2:=pairCells ((hel 2 (by decide)).trans (congrArg some (Prod.ext r2.symm rfl)));have q3:=pairCells ((hel 3 (by decide)).trans (congrArg some (Prod.ext r3.symm rfl)));have q4:=pairCells ((hel 4 (by decide)).trans (congrArg some (Prod.ext r4.symm rfl)));generalize cs0.toList=l at *
   match l,hlen,q0,q1,q2,q3,q4 with
   | [c0,c1,c2,c3,c4,c5,c6,c7,c8,c9],_,q0,q1,q2,q3,q4 =>
    simp at q0 q1 q2 q3 q4;simp [barCells,q0,q1,q2,q3,q4]
 have hcs':cs0=barCells:=Array.toList_inj.1 hcs;subst hcs';unfold World.var? at hv0;rw [gBar] at hv0;simp only [Option.bind_some] at hv0;split at hv0
 ·rename_i c t fr he
  refine ⟨t,fr,?_⟩;rw [he];simp only [Option.some.injEq] at hv0;rw [hv0]
 ·cases hv0
end Go.Proofs.YtijpfbcippijoaaGreatDoor
namespace Go.Proofs.YtijpfbcippijoaaGreatDoor.Sp
def Norm:Int→List (Int×Int)→Prop
 | _,[]=>True
 | b,r::t=>b<r.1∧r.1<r.2∧Norm r.2 t
theorem norm_lt {b:Int} {l:List (Int×Int)} (h:Norm b l):∀ r∈l,b<r.1∧r.1<r.2:=by
 induction l generalizing b with
 | nil=>intro r hr;cases hr
 | cons x t ih =>
  intro r hr;rcases List.mem_cons.1 hr with rfl|hr
  ·exact ⟨h.1,h.2.1⟩
  ·have:=ih h.2.2 r hr;have:=h.1;have:=h.2.1;omega
def chk:Nat→Int→List (Int×Int)→Int×Int
 | _,_,[]=>(0,0)
 | i,b,r::t=>if r.1<0∨1048576<r.2∨r.2≤r.1 then ((i:Int),20) else if r.1≤b then ((i:Int),22) else chk (i+1) r.2 t
def checkL (l:List (Int×Int)):Int×Int:=if 32768<l.length then (32768,21) else chk 0 (-1) l
structure Lst (l:List (Int×Int)):Prop where
 norm:Norm (-1) l
 top:∀ r∈l,r.2≤1048576
 few:l.length≤32768
theorem chk_ok {i:Nat} {b:Int} {l:List (Int×Int)} (h:(chk i b l).2=0) (hb:-1≤b):Norm b l∧∀ r∈l,r.2≤1048576:=by
 induction l generalizing i b with
 | nil=>exact ⟨trivial,fun r hr=>by cases hr⟩
 | cons r t ih =>
  unfold chk at h;split at h
  ·simp at h
  ·split at h
   ·simp at h
   ·rename_i h1 h2
    have:=ih h (by omega);refine ⟨⟨by omega,by omega,this.1⟩,fun x hx=>?_⟩;rcases List.mem_cons.1 hx with rfl|hx
    ·omega
    ·exact this.2 x hx
theorem checkL_ok {l:List (Int×Int)} (h:(checkL l).2=0):Lst l:=by
 unfold checkL at h;split at h
 ·simp at h
 ·have:=chk_ok h (by omega);exact ⟨this.1,this.2,by omega⟩
theorem Lst.nonneg {l:List (Int×Int)} (h:Lst l):∀ r∈l,0≤r.1∧r.1<r.2∧r.2≤1048576:=fun r hr=>by
 have:=norm_lt h.norm r hr;have:=h.top r hr;omega
end Go.Proofs.YtijpfbcippijoaaGreatDoor.Sp
namespace Go.Proofs.YtijpfbcippijoaaGreatDoor.Sp
open Go.RowKit Go.Lib
structure Rng (w:World) (a:Option Addr) (n cap:Nat) (l:List (Int×Int)):Prop where
 len:l.length=n
 room:n≤cap∧cap≤maxLen
 cells:∀ j,j<n→∃ g off,a=some ⟨g,off,none⟩∧g<w.heap.size∧w.cell? ⟨g,off+j*2,none⟩=some (.int .i64 (l.getD j (0,0)).1)∧w.cell? ⟨g,off+j*2+1,none⟩=some (.int .i64 (l.getD j (0,0)).2)
def Under (B:Nat) (a:Option Addr) (n:Nat):Prop:=0<n→∀ g off,a=some ⟨g,off,none⟩→g<B
theorem Rng.belowB {B:Nat} {w w':World} {a:Option Addr} {n cap:Nat} {l:List (Int×Int)} (h:Rng w a n cap l) (hu:Under B a n) (hb:Below B w w'):Rng w' a n cap l :=
 ⟨h.len,h.room,fun j hj=>by
  obtain ⟨g,off,ha,hg,hc,hd⟩:=h.cells j hj
  have hlt:=hu (by omega) g off ha
  exact ⟨g,off,ha,by have:=hb.size;omega,(hb.cell (p:=⟨g,off+j*2,none⟩) hlt).trans hc,(hb.cell (p:=⟨g,off+j*2+1,none⟩) hlt).trans hd⟩⟩
theorem Rng.under {w:World} {a:Option Addr} {n cap:Nat} {l:List (Int×Int)} (h:Rng w a n cap l):Under w.heap.size a n:=fun hn g off ha=>by
 obtain ⟨g',off',ha',hg,_⟩:=h.cells 0 hn;rw [ha] at ha';cases ha';exact hg
theorem Rng.below {w w':World} {a:Option Addr} {n cap:Nat} {l:List (Int×Int)} (h:Rng w a n cap l) (hb:Below w.heap.size w w'):Rng w' a n cap l:=h.belowB h.under hb
theorem rng_nil (w:World):Rng w none 0 0 []:=⟨rfl,⟨lR _,Nat.zero_le _⟩,fun _ hj=>absurd hj (Nat.not_lt_zero _)⟩
theorem below_grown {B:Nat} {w w':World} {row:Option Nat} (hg:w.grownBy w' row) (hrow:∀ k,row=some k→B≤k) (hB:B≤w.heap.size):Below B w w' :=
 (bE B w).grown hg hB hrow
end Go.Proofs.YtijpfbcippijoaaGreatDoor.Sp
namespace Go.Proofs.YtijpfbcippijoaaGreatDoor.Sp
open Go.RowKit Go.Lib
theorem isPart_yes (lo hi:Int) (h:0≤lo∧lo≤hi∧hi≤1048576) (w:World) :
  Calls Tryz.prog 96 #[.agg #[.int .i64 lo,.int .i64 hi]] w fun e w'=>e=.returned (.bool true)∧Below w.heap.size w w':=by
 obtain ⟨h1,h2,h3⟩:=h;go_enter Tryz.func96,Tryz.ntmps96;go_wp2_with fail;go_ret;exact ⟨rfl,(bE _ _).alloc (lR _) _⟩
theorem isPart_no (lo hi:Int) (h:¬ (0≤lo∧lo≤hi∧hi≤1048576)) (w:World) :
  Calls Tryz.prog 96 #[.agg #[.int .i64 lo,.int .i64 hi]] w fun e w'=>e=.returned (.bool false)∧Below w.heap.size w w':=by
 have hcs:lo<0∨(0≤lo∧hi<lo)∨(0≤lo∧lo≤hi∧1048576<hi):=by omega
 clear h;rcases hcs with k1|⟨k1,k2⟩|⟨k1,k2,k3⟩
 all_goals
  go_enter Tryz.func96,Tryz.ntmps96;go_wp2_with fail;go_ret
  first
   | exact ⟨rfl,(bE _ _).alloc (lR _) _⟩
   | exact ⟨congrArg (fun b=>Ending.returned (.bool b)) (by simp;omega),(bE _ _).alloc (lR _) _⟩
theorem below_drewN {B:Nat} {a w:World} (h:Below B a w) (m:Nat):Below B a (w.drewN m):=h.trans ⟨rfl,rfl,rfl,lR _,fun _ _=>rfl⟩
def prevHi (l:List (Int×Int)) (j:Nat):Int:=if j=0 then -1 else (l.getD (j-1) (0,0)).2
theorem drop_getD (l:List (Int×Int)) (j:Nat) (hj:j<l.length):l.drop j=l.getD j (0,0)::l.drop (j+1):=by
 rw [List.getD_eq_getElem?_getD,List.getElem?_eq_getElem hj];exact List.drop_eq_getElem_cons hj
theorem check_any {w:World} {a:Option Addr} {n cap:Nat} {l:List (Int×Int)} (h:Rng w a n cap l) :
  Calls Tryz.prog 59 #[.slice a n cap] w fun e w'=>e=.returned (.tuple #[.int .i64 (checkL l).1,.int .i64 (checkL l).2])∧Below w.heap.size w w':=by
 have hlen:=h.len;have hroom:=h.room;by_cases hmany:32768<n
 ·have e0:checkL l=(32768,21):=by unfold checkL;rw [if_pos (by omega)]
  rw [e0];clear e0 hlen;go_enter Tryz.func59,Tryz.ntmps59;go_wp2_with fail;go_ret2;exact ⟨rfl,bE _ _⟩
 ·obtain ⟨ri,rc,hck⟩:∃ i c,checkL l=(i,c):=⟨_,_,rfl⟩;have hck2:=hck;unfold checkL at hck2;rw [if_neg (by omega)] at hck2;have HC:Hid (chk 0 (-1) l=(ri,rc)):=hck2;clear hck2;rw [hck];clear hck;go_enter Tryz.func59,Tryz.ntmps59;go_wp2_with fail;go_loopw [11] (fun i w'=>∃ j:Nat,j≤n∧i=.int .i64 j∧Below w.heap.size w w'∧Hid (chk j (prevHi l j) (l.drop j)=(ri,rc))) (fun i _=>n-(RowKit.intOf i).toNat)
  case atStart=>exact ⟨0,Nat.zero_le _,rfl,bE _ _,HC⟩
  case round =>
   obtain ⟨j,hjn,rfl,hb,HR⟩:=hrel;by_cases hj:j<n
   ·obtain ⟨g,off,rfl,hg,hc,hd⟩:=h.cells j hj;have c0:=(hb.cell (p:=⟨g,off+j*2,none⟩) hg).trans hc;have c1:=(hb.cell (p:=⟨g,off+j*2+1,none⟩) hg).trans hd;have HR2:=HR.out;rw [drop_getD l j (by omega)] at HR2;obtain ⟨lo,hi,hlh⟩:∃ lo hi,l.getD j (0,0)=(lo,hi):=⟨_,_,rfl⟩;rw [hlh] at HR2 c0 c1;simp only at c0 c1;have HL:Hid (l.getD j (0,0)=(lo,hi)):=hlh;clear hlh hc hd HR;unfold chk at HR2;by_cases hp:0≤lo∧lo≤hi∧hi≤1048576
    ·have HP:Hid (∀ w,Calls Tryz.prog 96 #[.agg #[.int .i64 lo,.int .i64 hi]] w fun e w'=>e=.returned (.bool true)∧Below w.heap.size w w'):=isPart_yes lo hi hp;obtain ⟨p1,p2,p3⟩:=hp;by_cases he:lo=hi
     ·subst he;rw [if_pos (by simp only;omega)] at HR2;simp only [Prod.mk.injEq] at HR2;obtain ⟨rfl,rfl⟩:=HR2;go_wp2_with fail;refine (HP.out _).mono ?_;rintro e w1 ⟨rfl,hb1⟩;have hs1:=hb1.size;have c2:w1.cell? ⟨wr.heap.size,0,none⟩=some (.int .i64 lo):=(hb1.cell (p:=⟨wr.heap.size,0,none⟩) (by simp)).trans (cM _ _ _ _ _);have c3:w1.cell? ⟨wr.heap.size,1,none⟩=some (.int .i64 lo):=(hb1.cell (p:=⟨wr.heap.size,1,none⟩) (by simp)).trans (cM _ _ _ _ _);have hB1:Below w.heap.size w w1:=(hb.alloc hb.size _).trans (hb1.mono (by have:=hb.size;simp;omega));go_wp2_with fail;go_ret2;exact ⟨rfl,hB1⟩
     ·rw [if_neg (by simp only;omega)] at HR2;simp only at HR2;have t1:(lo==hi)=false:=by simp [he]
      by_cases ho:lo≤prevHi l j
      ·rw [if_pos ho] at HR2;simp only [Prod.mk.injEq] at HR2;obtain ⟨rfl,rfl⟩:=HR2;have hj0:j≠0:=fun e=>by rw [prevHi,if_pos e] at ho;omega
       obtain ⟨i,rfl⟩:∃ i,j=i+1:=⟨j-1,by omega⟩;rw [prevHi,if_neg (by omega),Nat.add_sub_cancel] at ho;obtain ⟨g',off',hga,hg',_,hd'⟩:=h.cells i (by omega);cases hga;have c4:=(hb.cell (p:=⟨g,off+i*2+1,none⟩) hg).trans hd';generalize (l.getD i (0,0)).2=ph at ho c4;clear hd' he;go_wp2_with fail;refine (HP.out _).mono ?_;rintro e w1 ⟨rfl,hb1⟩;have hs1:=hb1.size;have c2:w1.cell? ⟨wr.heap.size,0,none⟩=some (.int .i64 lo):=(hb1.cell (p:=⟨wr.heap.size,0,none⟩) (by simp)).trans (cM _ _ _ _ _);have c3:w1.cell? ⟨wr.heap.size,1,none⟩=some (.int .i64 hi):=(hb1.cell (p:=⟨wr.heap.size,1,none⟩) (by simp)).trans (cM _ _ _ _ _);have hB1:Below w.heap.size w w1:=(hb.alloc hb.size _).trans (hb1.mono (by have:=hb.size;simp;omega));have c5:w1.cell? ⟨g,off+i*2+1,none⟩=some (.int .i64 ph):=(hB1.cell (p:=⟨g,off+i*2+1,none⟩) hg).trans ((hb.cell (p:=⟨g,off+i*2+1,none⟩) hg).symm.trans c4);clear c4 c0 c1;go_wp2_with fail;go_quiet (fail);go_wp2_with fail;go_ret2;exact ⟨rfl,below_drewN hB1 _⟩
      ·rw [if_neg ho] at HR2;have HN:Hid (chk (j+1) (prevHi l (j+1)) (l.drop (j+1))=(ri,rc)):=by
        show _=_;rw [prevHi,if_neg (by omega),Nat.add_sub_cancel,HL.out];exact HR2
       clear HR2 he;by_cases hj0:j=0
       ·subst hj0;simp only [Nat.zero_mul,Nat.add_zero] at c0 c1;clear ho;go_wp2_with fail;refine (HP.out _).mono ?_;rintro e w1 ⟨rfl,hb1⟩;have hs1:=hb1.size;have c2:w1.cell? ⟨wr.heap.size,0,none⟩=some (.int .i64 lo):=(hb1.cell (p:=⟨wr.heap.size,0,none⟩) (by simp)).trans (cM _ _ _ _ _);have c3:w1.cell? ⟨wr.heap.size,1,none⟩=some (.int .i64 hi):=(hb1.cell (p:=⟨wr.heap.size,1,none⟩) (by simp)).trans (cM _ _ _ _ _);have hB1:Below w.heap.size w w1:=(hb.alloc hb.size _).trans (hb1.mono (by have:=hb.size;simp;omega));clear c0 c1;go_wp2_with fail;go_quiet (fail);go_wp2_with fail;go_roundw
        case rel=>exact ⟨1,by omega,rfl,below_drewN hB1 _,HN⟩
        case measure=>simp [RowKit.intOf];omega
       ·obtain ⟨i,rfl⟩:∃ i,j=i+1:=⟨j-1,by omega⟩;rw [prevHi,if_neg (by omega),Nat.add_sub_cancel] at ho;obtain ⟨g',off',hga,hg',_,hd'⟩:=h.cells i (by omega);cases hga;have c4:=(hb.cell (p:=⟨g,off+i*2+1,none⟩) hg).trans hd';generalize (l.getD i (0,0)).2=ph at ho c4;clear hd' hj0;go_wp2_with fail;refine (HP.out _).mono ?_;rintro e w1 ⟨rfl,hb1⟩;have hs1:=hb1.size;have c2:w1.cell? ⟨wr.heap.size,0,none⟩=some (.int .i64 lo):=(hb1.cell (p:=⟨wr.heap.size,0,none⟩) (by simp)).trans (cM _ _ _ _ _);have c3:w1.cell? ⟨wr.heap.size,1,none⟩=some (.int .i64 hi):=(hb1.cell (p:=⟨wr.heap.size,1,none⟩) (by simp)).trans (cM _ _ _ _ _);have hB1:Below w.heap.size w w1:=(hb.alloc hb.size _).trans (hb1.mono (by have:=hb.size;simp;omega));have c5:w1.cell? ⟨g,off+i*2+1,none⟩=some (.int .i64 ph):=(hB1.cell (p:=⟨g,off+i*2+1,none⟩) hg).trans ((hb.cell (p:=⟨g,off+i*2+1,none⟩) hg).symm.trans c4);clear c4 c0 c1;go_wp2_with fail;go_quiet (fail);go_wp2_with fail;go_roundw
        case rel=>exact ⟨i+1+1,by omega,by go_num,below_drewN hB1 _,HN⟩
        case measure=>simp [RowKit.intOf];omega
    ·have HP:Hid (∀ w,Calls Tryz.prog 96 #[.agg #[.int .i64 lo,.int .i64 hi]] w fun e w'=>e=.returned (.bool false)∧Below w.heap.size w w'):=isPart_no lo hi hp;rw [if_pos (by simp only;omega)] at HR2;simp only [Prod.mk.injEq] at HR2;obtain ⟨rfl,rfl⟩:=HR2;clear hp;go_wp2_with fail;refine (HP.out _).mono ?_;rintro e w1 ⟨rfl,hb1⟩;have hB1:Below w.heap.size w w1:=(hb.alloc hb.size _).trans (hb1.mono (by have:=hb.size;simp;omega));go_wp2_with fail;go_ret2;exact ⟨rfl,hB1⟩
   ·have e1:l.drop j=[]:=List.drop_eq_nil_of_le (by omega);have HR2:=HR.out;rw [e1] at HR2;simp only [chk,Prod.mk.injEq] at HR2;obtain ⟨rfl,rfl⟩:=HR2;go_wp2_with fail;go_ret2;exact ⟨rfl,hb⟩
end Go.Proofs.YtijpfbcippijoaaGreatDoor.Sp
namespace Go.Proofs.YtijpfbcippijoaaGreatDoor
structure OpV where
 c:Int
 n:Int
 k:Int
 p:Int
 s:ByteArray
 l:List (Int×Int)
 tc:Int
 tn:Int
 on:Bool
def isIdP (c n:Int):Bool:=decide (1≤c∧c≤8∧1≤n∧n≤1024)
def ext0 (o:OpV):Bool:=!o.l.isEmpty
def extP (o:OpV):Bool:=!decide (o.p=0)||!decide (o.s.size=0)
def extT (o:OpV):Bool:=!(decide (o.tc=0)&&decide (o.tn=0))||o.on
def extra (o:OpV):Bool:=if o.k=1 then ext0 o||extT o else if o.k=4 then extP o||ext0 o else extP o||extT o
def insP (o:OpV) (total:Int):Int :=
 if (check o.s).2.2≠0 then (check o.s).2.2 else if (check o.s).1=0 then 15 else if 256<(check o.s).1 then 14
 else if o.p<0∨total<o.p then 12 else if 1048576<total+(check o.s).1 then 24 else 0
def lastHi (l:List (Int×Int)):Int:=(l.getD (l.length-1) (0,0)).2
def rngP (o:OpV) (total:Int):Int :=
 if o.l=[] then 43 else if (Sp.checkL o.l).2≠0 then (Sp.checkL o.l).2 else if total<lastHi o.l then 12 else 0
def tgtP (o:OpV):Int:=if isIdP o.tc o.tn=false∨(o.tc=o.c∧o.tn=o.n) then 63 else 0
def opCheck (o:OpV) (total:Int):Int :=
 if total<0∨1048576<total then 12 else if o.k<1∨4<o.k then 40
 else if ¬ (o.c=0∧o.n=0)∧isIdP o.c o.n=false then 41 else if extra o=true then 42
 else if o.k=1 then insP o total else if o.k=4 then tgtP o else rngP o total
def ownP (o:OpV):Int:=if o.k=1∧0≤o.p∧o.p≤1048576 then opCheck o o.p else opCheck o 1048576
def widthP (o:OpV):Int:=if o.k=1 then (check o.s).1 else 0
end Go.Proofs.YtijpfbcippijoaaGreatDoor
