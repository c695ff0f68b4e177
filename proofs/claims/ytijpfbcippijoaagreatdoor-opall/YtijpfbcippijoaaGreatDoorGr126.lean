import Derived.Test.YtijpfbcippijoaaGreatDoorAl
import Derived.Test.YtijpfbcippijoaaGreatDoorGr122
import Derived.Test.YtijpfbcippijoaaGreatDoorGr133
import Derived.Test.YtijpfbcippijoaaGreatDoorGr111
set_option maxHeartbeats 2000000
set_option maxRecDepth 100000
namespace Go.Proofs.YtijpfbcippijoaaGreatDoor
open Go.RowKit Go.Lib Sp
def oneB (r:Int×Int):List UInt8:=Lib.itoa r.1++[45]++Lib.itoa r.2
def rngB:List (Int×Int)→List UInt8
 | []=>[]
 | r::t=>oneB r++t.flatMap fun r=>[44]++oneB r
theorem rngB_snoc (l:List (Int×Int)) (r:Int×Int) (h:l≠[]):rngB (l++[r])=rngB l++[44]++Lib.itoa r.1++[45]++Lib.itoa r.2:=by
 cases l with
 | nil=>exact absurd rfl h
 | cons x t=>simp [rngB,oneB]
theorem rngB_one (r:Int×Int):rngB [r]=Lib.itoa r.1++[45]++Lib.itoa r.2:=by simp [rngB,oneB]
def Places (l:List (Int×Int)):Prop:=∀ r∈l,0≤r.1∧r.1≤1048576∧0≤r.2∧r.2≤1048576
theorem oneB_length {r:Int×Int} (h:0≤r.1∧r.1≤1048576∧0≤r.2∧r.2≤1048576):(oneB r).length≤43:=by
 have h1:=Lib.itoa_length_le r.1 (by omega) (by omega);have h2:=Lib.itoa_length_le r.2 (by omega) (by omega);simp only [oneB,List.length_append,List.length_cons,List.length_nil];omega
theorem rngB_length {l:List (Int×Int)} (h:Places l):(rngB l).length≤l.length*44:=by
 cases l with
 | nil=>simp [rngB]
 | cons x t =>
  have h1:=oneB_length (h x (by simp));have h2:∀ t:List (Int×Int),Places t→(t.flatMap fun r=>[44]++oneB r).length≤t.length*44:=by
   intro t
   induction t with
   | nil=>intro _;simp
   | cons y u ih =>
    intro hy;have h3:=oneB_length (hy y (by simp));have h4:=ih fun r hr=>hy r (by simp [hr])
    simp only [List.flatMap_cons,List.length_append,List.length_cons,List.length_nil] at h4 ⊢;omega
  have h5:=h2 t fun r hr=>h r (by simp [hr])
  simp only [rngB,List.length_append,List.length_cons];omega
theorem take_getD (l:List (Int×Int)) (j:Nat) (hj:j<l.length):l.take (j+1)=l.take j++[l.getD j (0,0)]:=by
 rw [List.take_succ_eq_append_getElem hj,List.getD_eq_getElem?_getD,List.getElem?_eq_getElem hj];rfl
theorem strCells_bs (l:List UInt8):Lib.strCells (bs l)=Lib.byteCells l:=by simp [Lib.strCells,Lib.byteCells,bs]
structure Bu (w W:World) (acc:List UInt8):Prop where
 isB:Lib.IsBuilderF 87 5 w.heap.size w.heap.size (Lib.byteCells acc) W
 below:Below w.heap.size w W
 lt:w.heap.size<W.heap.size
theorem Bu.alloc {w W:World} {acc:List UInt8} (h:Bu w W acc) (o:Obj):Bu w (W.alloc o) acc:=⟨h.isB.alloc o,h.below.alloc h.below.size o,by have:=h.lt;simp;omega⟩
theorem Bu.keep {w W W':World} {acc:List UInt8} (h:Bu w W acc) (hb:Below W.heap.size W W'):Bu w W' acc:=⟨builder_keep h.isB hb,h.below.trans (hb.mono h.below.size),by have:=h.lt;have:=hb.size;omega⟩
theorem box_keep {w W W':World} (k:Lib.OthersKept 5 (some w.heap.size) W W') {g:Nat} {c:Array Value} (hg:W.heap[g]?=some (.cells c 76)) (hne:g≠w.heap.size):W'.heap[g]?=some (.cells c 76) :=
 k g _ hg (by simpa using hne) (fun c fz e=>by injection e with _ e2;exact absurd e2 (by decide))
theorem bu_byte {w W:World} {acc:List UInt8} (h:Bu w W acc) (c:UInt8) (hl:acc.length≤1000000000) :
  Calls Tryz.prog 116 #[.pointer (some ⟨w.heap.size,0,none⟩),.int .u8 (c.toNat:Int)] W fun e W'=>e=.returned .nilIface∧Bu w W' (acc++[c])∧Lib.OthersKept 5 (some w.heap.size) W W':=by
 refine (writeByte_any w.heap.size w.heap.size _ (c.toNat:Int) W h.isB (by rw [Lib.byteCells_length];omega) h.below.size).mono ?_;rintro e W' ⟨rfl,h1,b1,k1⟩;refine ⟨rfl,⟨?_,h.below.trans b1,by have:=h.lt;have:=b1.size;omega⟩,k1⟩;rw [Lib.byteCells_append];exact .inr h1
theorem bu_str {w W:World} {acc:List UInt8} (h:Bu w W acc) (l:List UInt8) (hl:acc.length≤1000000000) (hl2:l.length≤1000000000) :
  Calls Tryz.prog 117 #[.pointer (some ⟨w.heap.size,0,none⟩),.string (bs l)] W fun e W'=>e=.returned (.tuple #[.int .i64 (bs l).size,.nilIface])∧Bu w W' (acc++l)∧Lib.OthersKept 5 (some w.heap.size) W W':=by
 refine (writeString_any w.heap.size w.heap.size _ (bs l) W h.isB (by rw [Lib.byteCells_length,bs_size];omega) h.below.size).mono ?_;rintro e W' ⟨rfl,h1,b1,k1⟩;refine ⟨rfl,⟨?_,h.below.trans b1,by have:=h.lt;have:=b1.size;omega⟩,k1⟩;rw [Lib.byteCells_append,← strCells_bs l];exact .inr h1
theorem printRanges_any {w:World} {a:Option Addr} {n cap:Nat} {l:List (Int×Int)} (h:Rng w a n cap l) (hP:Places l) (hn:n≤32768) (hp:Pow w) :
  Calls Tryz.prog 88 #[.slice a n cap] w fun e w'=>e=.returned (.string (bs (rngB l)))∧Below w.heap.size w w':=by
 have hlen:=h.len;have HT:Hid (∀ (x:Int) (w':World),0≤x→x≤1048576→Below w.heap.size w w'→Calls Tryz.prog 86 #[.int .i64 x] w' fun e w''=>e=.returned (.string (bs (Lib.itoa x)))∧Below w'.heap.size w' w''):=fun x w' h0 h1 hb=>itoa_any x (by omega) (by omega) w' (hp.below hb)
 clear hp;go_enter Tryz.func88,Tryz.ntmps88;go_wp2_with fail;go_loopw [4,5,8] (fun _ _ vi W=>∃ j:Nat,vi=.int .i64 j∧j≤n∧Bu w W (rngB (l.take j))) (fun _ _ vi _=>n-(RowKit.intOf vi).toNat)
 case atStart=>exact ⟨0,rfl,Nat.zero_le _,⟨Lib.IsBuilderF.of (Lib.fresh_isBuilder 87 5 w),(bE _ _).alloc (lR _) _,by simp⟩⟩
 case round =>
  obtain ⟨j,rfl,hjn,hB⟩:=hrel;by_cases hj:j<n
  ·obtain ⟨g,off,rfl,hg,hc,hd⟩:=h.cells j hj;have c0:=(hB.below.cell (p:=⟨g,off+j*2,none⟩) hg).trans hc;have c1:=(hB.below.cell (p:=⟨g,off+j*2+1,none⟩) hg).trans hd;have hm:l.getD j (0,0)∈l:=by rw [List.getD_eq_getElem?_getD,List.getElem?_eq_getElem (by omega)];exact List.getElem_mem (by omega)
   have hpl:=hP _ hm;have htk:=take_getD l j (by omega);have hll:(rngB (l.take j)).length≤1500000:=by
    have h1:=rngB_length (l:=l.take j) fun r hr=>hP r (List.mem_of_mem_take hr)
    rw [List.length_take] at h1;omega
   generalize l.getD j (0,0)=r at *;obtain ⟨lo,hi⟩:=r;simp only at c0 c1 hpl;obtain ⟨p0,p1,p2,p3⟩:=hpl;have i0:=Lib.itoa_length_le lo (by omega) (by omega);have i1:=Lib.itoa_length_le hi (by omega) (by omega);have HTK:Hid (l.take (j+1)=l.take j++[(lo,hi)]):=htk;clear hc hd hm htk;by_cases hj0:j=0
   ·have HJ:Hid (j=0):=hj0;have hd0:decide (0<j)=false:=decide_eq_false (by omega);have hd1:¬ (0:Int)<(j:Int):=by omega
    clear hj0;have hB0:=hB.alloc (Obj.cells #[.int .i64 lo,.int .i64 hi] 76);have x0:(wr.alloc (Obj.cells #[.int .i64 lo,.int .i64 hi] 76)).heap[wr.heap.size]?=some (Obj.cells #[.int .i64 lo,.int .i64 hi] 76):=by show (wr.heap.push _)[wr.heap.size]?=_;simp
    have hne:wr.heap.size≠w.heap.size:=by have:=hB.lt;omega
    go_wp2_with fail;refine (HT.out lo _ p0 p1 hB0.below).mono ?_;rintro e w1 ⟨rfl,b1⟩;have hB1:=hB0.keep b1;have x1:=(b1.block _ (gA x0)).trans x0;have f1:w1.cell? ⟨wr.heap.size,0,none⟩=some (.int .i64 lo):=by rw [cH x1];rfl
    have g1:w1.cell? ⟨wr.heap.size,1,none⟩=some (.int .i64 hi):=by rw [cH x1];rfl
    clear b1;go_wp2_with fail;refine (bu_str hB1 (Lib.itoa lo) (by first|omega|(simp;omega)) (by omega)).mono ?_;rintro e w2 ⟨rfl,hB2,k2⟩;have x2:=box_keep k2 x1 hne;have f2:w2.cell? ⟨wr.heap.size,0,none⟩=some (.int .i64 lo):=by rw [cH x2];rfl
    have g2:w2.cell? ⟨wr.heap.size,1,none⟩=some (.int .i64 hi):=by rw [cH x2];rfl
    clear k2;go_wp2_with fail;refine (bu_byte hB2 45 (by first|omega|(simp;omega))).mono ?_;rintro e w3 ⟨rfl,hB3,k3⟩;have x3:=box_keep k3 x2 hne;have f3:w3.cell? ⟨wr.heap.size,0,none⟩=some (.int .i64 lo):=by rw [cH x3];rfl
    have g3:w3.cell? ⟨wr.heap.size,1,none⟩=some (.int .i64 hi):=by rw [cH x3];rfl
    clear k3;go_wp2_with fail;refine (HT.out hi _ p2 p3 hB3.below).mono ?_;rintro e w4 ⟨rfl,b4⟩;have hB4:=hB3.keep b4;have x4:=(b4.block _ (gA x3)).trans x3;have f4:w4.cell? ⟨wr.heap.size,0,none⟩=some (.int .i64 lo):=by rw [cH x4];rfl
    have g4:w4.cell? ⟨wr.heap.size,1,none⟩=some (.int .i64 hi):=by rw [cH x4];rfl
    clear b4;go_wp2_with fail;refine (bu_str hB4 (Lib.itoa hi) (by first|omega|(simp;omega)) (by omega)).mono ?_;rintro e w5 ⟨rfl,hB5,k5⟩;have x5:=box_keep k5 x4 hne;have f5:w5.cell? ⟨wr.heap.size,0,none⟩=some (.int .i64 lo):=by rw [cH x5];rfl
    have g5:w5.cell? ⟨wr.heap.size,1,none⟩=some (.int .i64 hi):=by rw [cH x5];rfl
    clear k5;go_wp2_with fail;have HF:Bu w w5 (rngB (l.take (j+1))):=by
     rw [HTK.out,HJ.out,List.take_zero,List.nil_append,rngB_one];have:=hB5;rw [HJ.out] at this;simpa [rngB] using this
    go_roundw
    case rel=>exact ⟨j+1,by go_num,by omega,HF⟩
    case measure=>simp [RowKit.intOf];omega
   ·have HJ:Hid (l.take j≠[]):=fun e=>by
     have h0:(l.take j).length=0:=by rw [e];rfl
     rw [List.length_take] at h0;omega
    have hd0:0<j:=by omega
    have hd1:(0:Int)<(j:Int):=by omega
    clear hj0;have hB0:=hB.alloc (Obj.cells #[.int .i64 lo,.int .i64 hi] 76);have x0:(wr.alloc (Obj.cells #[.int .i64 lo,.int .i64 hi] 76)).heap[wr.heap.size]?=some (Obj.cells #[.int .i64 lo,.int .i64 hi] 76):=by show (wr.heap.push _)[wr.heap.size]?=_;simp
    have hne:wr.heap.size≠w.heap.size:=by have:=hB.lt;omega
    go_wp2_with fail;refine (bu_byte hB0 44 (by first|omega|(simp;omega))).mono ?_;rintro e w1 ⟨rfl,hB1,k1⟩;have x1:=box_keep k1 x0 hne;have f1:w1.cell? ⟨wr.heap.size,0,none⟩=some (.int .i64 lo):=by rw [cH x1];rfl
    have g1:w1.cell? ⟨wr.heap.size,1,none⟩=some (.int .i64 hi):=by rw [cH x1];rfl
    clear k1;go_wp2_with fail;refine (HT.out lo _ p0 p1 hB1.below).mono ?_;rintro e w2 ⟨rfl,b2⟩;have hB2:=hB1.keep b2;have x2:=(b2.block _ (gA x1)).trans x1;have f2:w2.cell? ⟨wr.heap.size,0,none⟩=some (.int .i64 lo):=by rw [cH x2];rfl
    have g2:w2.cell? ⟨wr.heap.size,1,none⟩=some (.int .i64 hi):=by rw [cH x2];rfl
    clear b2;go_wp2_with fail;refine (bu_str hB2 (Lib.itoa lo) (by first|omega|(simp;omega)) (by omega)).mono ?_;rintro e w3 ⟨rfl,hB3,k3⟩;have x3:=box_keep k3 x2 hne;have f3:w3.cell? ⟨wr.heap.size,0,none⟩=some (.int .i64 lo):=by rw [cH x3];rfl
    have g3:w3.cell? ⟨wr.heap.size,1,none⟩=some (.int .i64 hi):=by rw [cH x3];rfl
    clear k3;go_wp2_with fail;refine (bu_byte hB3 45 (by first|omega|(simp;omega))).mono ?_;rintro e w4 ⟨rfl,hB4,k4⟩;have x4:=box_keep k4 x3 hne;have f4:w4.cell? ⟨wr.heap.size,0,none⟩=some (.int .i64 lo):=by rw [cH x4];rfl
    have g4:w4.cell? ⟨wr.heap.size,1,none⟩=some (.int .i64 hi):=by rw [cH x4];rfl
    clear k4;go_wp2_with fail;refine (HT.out hi _ p2 p3 hB4.below).mono ?_;rintro e w5 ⟨rfl,b5⟩;have hB5:=hB4.keep b5;have x5:=(b5.block _ (gA x4)).trans x4;have f5:w5.cell? ⟨wr.heap.size,0,none⟩=some (.int .i64 lo):=by rw [cH x5];rfl
    have g5:w5.cell? ⟨wr.heap.size,1,none⟩=some (.int .i64 hi):=by rw [cH x5];rfl
    clear b5;go_wp2_with fail;refine (bu_str hB5 (Lib.itoa hi) (by first|omega|(simp;omega)) (by omega)).mono ?_;rintro e w6 ⟨rfl,hB6,k6⟩;have x6:=box_keep k6 x5 hne;have f6:w6.cell? ⟨wr.heap.size,0,none⟩=some (.int .i64 lo):=by rw [cH x6];rfl
    have g6:w6.cell? ⟨wr.heap.size,1,none⟩=some (.int .i64 hi):=by rw [cH x6];rfl
    clear k6;go_wp2_with fail;have HF:Bu w w6 (rngB (l.take (j+1))):=by
     rw [HTK.out,rngB_snoc _ _ HJ.out];exact hB6
    go_roundw
    case rel=>exact ⟨j+1,by go_num,by omega,HF⟩
    case measure=>simp [RowKit.intOf];omega
  ·have hjn2:j=n:=by omega
   have e1:l.take j=l:=List.take_of_length_le (by omega);rw [e1] at hB;clear hjn e1 h HT;go_wp2_with fail;refine (Tryz.Builder_String_any_k w.heap.size w.heap.size (rngB l) _ hB.isB hB.below.size).mono ?_;rintro e w1 ⟨rfl,_,b1,_⟩;have hb1:=hB.below.trans b1;clear b1 hB;go_wp2_with fail;go_ret;exact ⟨rfl,hb1⟩
def insB (p:Int) (s:ByteArray):List UInt8:=[105,110,115,32]++Lib.itoa p++[32]++quoted s
theorem printWord_1 {c n p:Int} {s:ByteArray} {l:List (Int×Int)} {tc tn:Int} {on:Bool} {v:Value} (hp0:0≤p) (hp1:p≤1048576) (hs:s.size≤4194304) (hq:(quoted s).length≤1099511627776) (w:World) (hp:Pow w) (hd:Deb w) :
  Calls Tryz.prog 54 #[opVal ⟨c,n,1,p,s,l,tc,tn,on⟩ v] w fun e w'=>e=.returned (.string (bs (insB p s)))∧Below w.heap.size w w':=by
 have HT:Hid (∀ (w':World),Below w.heap.size w w'→Calls Tryz.prog 86 #[.int .i64 p] w' fun e w''=>e=.returned (.string (bs (Lib.itoa p)))∧Below w'.heap.size w' w''):=fun w' hb=>itoa_any p (by omega) (by omega) w' (hp.below hb)
 have HQ:Hid (∀ (w':World),Below w.heap.size w w'→Calls Tryz.prog 87 #[.string s] w' fun e w''=>e=.returned (.string (bs (quoted s)))∧Below w'.heap.size w' w''):=fun w' hb=>quote_any s (by omega) w' (hd.below hb)
 have q1:(bs (Lib.itoa p)).size≤21:=bs_itoa p (by omega) (by omega);have q2:(bs (quoted s)).size≤1099511627776:=by rw [bs_size];exact hq
 have HR:Hid ((⟨#[105,110,115,32]⟩:ByteArray)++bs (Lib.itoa p)++⟨#[32]⟩++bs (quoted s)=bs (insB p s)):=by
  show _=_;unfold insB;rw [← bs_append,← bs_append,← bs_append];rfl
 generalize bs (Lib.itoa p)=x at *;generalize bs (quoted s)=y at *;have g1:¬ 9223372036854775807<4+x.size:=by omega
 have g2:¬ 9223372036854775807<4+x.size+1:=by omega
 have g3:¬ 9223372036854775807<4+x.size+1+y.size:=by omega
 clear hp hd hq;simp only [opVal];have hw2:=(bE w.heap.size w).alloc (lR _) (Obj.cells #[.int .i64 c,.int .i64 n,.int .i64 1,.int .i64 p,.string s,v,.int .i64 tc,.int .i64 tn,.bool on] 44);have k3:(w.alloc (Obj.cells #[.int .i64 c,.int .i64 n,.int .i64 1,.int .i64 p,.string s,v,.int .i64 tc,.int .i64 tn,.bool on] 44)).cell? ⟨w.heap.size,3,none⟩=some (.int .i64 p):=cM ..;have k4:(w.alloc (Obj.cells #[.int .i64 c,.int .i64 n,.int .i64 1,.int .i64 p,.string s,v,.int .i64 tc,.int .i64 tn,.bool on] 44)).cell? ⟨w.heap.size,4,none⟩=some (.string s):=cM ..;have hk:w.heap.size<(w.alloc (Obj.cells #[.int .i64 c,.int .i64 n,.int .i64 1,.int .i64 p,.string s,v,.int .i64 tc,.int .i64 tn,.bool on] 44)).heap.size:=by simp
 have hcur:Below (w.alloc (Obj.cells #[.int .i64 c,.int .i64 n,.int .i64 1,.int .i64 p,.string s,v,.int .i64 tc,.int .i64 tn,.bool on] 44)).heap.size (w.alloc (Obj.cells #[.int .i64 c,.int .i64 n,.int .i64 1,.int .i64 p,.string s,v,.int .i64 tc,.int .i64 tn,.bool on] 44)) (w.alloc (Obj.cells #[.int .i64 c,.int .i64 n,.int .i64 1,.int .i64 p,.string s,v,.int .i64 tc,.int .i64 tn,.bool on] 44)):=bE _ _;go_enter Tryz.func54,Tryz.ntmps54;go_wp2_with fail
 go_region_held3 (fun W=>W.cell? ⟨w.heap.size,3,none⟩=some (.int .i64 p)∧W.cell? ⟨w.heap.size,4,none⟩=some (.string s)) (first|exact ⟨k3,k4⟩|exact ⟨e3,e4⟩)
   (first
    | (go_at_call 86;refine (HT.out _ ?_).mono ?_;(first|exact hw2.trans (hcur.mono hw2.size)|exact hw2.trans (hcur.drew.mono hw2.size));rintro e w1 ⟨rfl,hb1⟩;have hcur:Below (w.alloc (Obj.cells #[.int .i64 c,.int .i64 n,.int .i64 1,.int .i64 p,.string s,v,.int .i64 tc,.int .i64 tn,.bool on] 44)).heap.size (w.alloc (Obj.cells #[.int .i64 c,.int .i64 n,.int .i64 1,.int .i64 p,.string s,v,.int .i64 tc,.int .i64 tn,.bool on] 44)) w1:=(by first|exact hcur.trans (hb1.mono hcur.size)|exact hcur.drew.trans (hb1.mono hcur.size));have e3:=(hcur.cell (p:=⟨w.heap.size,3,none⟩) hk).trans k3;have e4:=(hcur.cell (p:=⟨w.heap.size,4,none⟩) hk).trans k4)
    | (go_at_call 87;refine (HQ.out _ ?_).mono ?_;(first|exact hw2.trans (hcur.mono hw2.size)|exact hw2.trans (hcur.drew.mono hw2.size));rintro e w1 ⟨rfl,hb1⟩;have hcur:Below (w.alloc (Obj.cells #[.int .i64 c,.int .i64 n,.int .i64 1,.int .i64 p,.string s,v,.int .i64 tc,.int .i64 tn,.bool on] 44)).heap.size (w.alloc (Obj.cells #[.int .i64 c,.int .i64 n,.int .i64 1,.int .i64 p,.string s,v,.int .i64 tc,.int .i64 tn,.bool on] 44)) w1:=(by first|exact hcur.trans (hb1.mono hcur.size)|exact hcur.drew.trans (hb1.mono hcur.size));have e3:=(hcur.cell (p:=⟨w.heap.size,3,none⟩) hk).trans k3;have e4:=(hcur.cell (p:=⟨w.heap.size,4,none⟩) hk).trans k4))
 all_goals
  go_wp2_with fail;go_ret;exact ⟨congrArg (fun b=>Ending.returned (.string b)) HR.out,hw2.trans (hcur.mono hw2.size)⟩
theorem quoL_le:∀ (f:Nat) (l:List UInt8),(quoL f l).length≤10*f
 | 0,l=>by simp [quoL]
 | f+1,l=>by
  rw [quoL];split
  ·simp
  ·have h1:=(pieceL_len l).2;have h2:=quoL_le f (l.drop (dec l).2);rw [List.length_append];omega
theorem quoted_le (s:ByteArray):(quoted s).length≤10*s.size+2:=by
 unfold quoted;have:=quoL_le s.size s.data.toList;simp only [List.length_append,List.length_cons,List.length_nil];omega
theorem idB_length {c n:Int} (h0:0≤c) (h1:c≤1048576) (h2:0≤n) (h3:n≤1048576):(idB c n).length≤100:=by
 unfold idB;have h1:=Lib.itoa_length_le c (by omega) (by omega);have h2:=Lib.itoa_length_le n (by omega) (by omega);split
 ·simp
 ·simp only [List.length_append,List.length_cons,List.length_nil];omega
theorem printWord_2 {c n p:Int} {s:ByteArray} {l:List (Int×Int)} {tc tn:Int} {on:Bool} {w:World} {a:Option Addr} {m cap:Nat} (h:Rng w a m cap l) (hP:Places l) (hm:m≤32768) (hp:Pow w) :
  Calls Tryz.prog 54 #[opVal ⟨c,n,2,p,s,l,tc,tn,on⟩ (.slice a m cap)] w fun e w'=>e=.returned (.string (bs ([104,105,100,101,32]++rngB l)))∧Below w.heap.size w w':=by
 have HP:Hid (∀ w':World,Below w.heap.size w w'→Calls Tryz.prog 88 #[.slice a m cap] w' fun e w''=>e=.returned (.string (bs (rngB l)))∧Below w'.heap.size w' w''):=fun w' hb=>printRanges_any (h.below hb) hP hm (hp.below hb)
 have q1:(bs (rngB l)).size≤1500000:=by
  rw [bs_size];have:=rngB_length hP;have:=h.len;omega
 have HR:Hid ((⟨#[104,105,100,101,32]⟩:ByteArray)++bs (rngB l)=bs ([104,105,100,101,32]++rngB l)):=by
  show _=_;rw [← bs_append];rfl
 clear h hP hm hp;generalize bs (rngB l)=x at *;simp only [opVal];have hw2:=(bE w.heap.size w).alloc (lR _) (Obj.cells #[.int .i64 c,.int .i64 n,.int .i64 2,.int .i64 p,.string s,.slice a m cap,.int .i64 tc,.int .i64 tn,.bool on] 44);go_enter Tryz.func54,Tryz.ntmps54;go_wp2_with fail;refine (HP.out _ hw2).mono ?_;rintro e w1 ⟨rfl,hb1⟩;have hB:=hw2.trans (hb1.mono hw2.size);clear hw2 hb1 HP;have g1:¬ 9223372036854775807<5+x.size:=by omega
 go_wp2_with fail;go_ret;exact ⟨congrArg (fun b=>Ending.returned (.string b)) HR.out,hB⟩
theorem printWord_3 {c n p:Int} {s:ByteArray} {l:List (Int×Int)} {tc tn:Int} {on:Bool} {w:World} {a:Option Addr} {m cap:Nat} (h:Rng w a m cap l) (hP:Places l) (hm:m≤32768) (hp:Pow w) :
  Calls Tryz.prog 54 #[opVal ⟨c,n,3,p,s,l,tc,tn,on⟩ (.slice a m cap)] w fun e w'=>e=.returned (.string (bs ([115,104,111,119,32]++rngB l)))∧Below w.heap.size w w':=by
 have HP:Hid (∀ w':World,Below w.heap.size w w'→Calls Tryz.prog 88 #[.slice a m cap] w' fun e w''=>e=.returned (.string (bs (rngB l)))∧Below w'.heap.size w' w''):=fun w' hb=>printRanges_any (h.below hb) hP hm (hp.below hb)
 have q1:(bs (rngB l)).size≤1500000:=by
  rw [bs_size];have:=rngB_length hP;have:=h.len;omega
 have HR:Hid ((⟨#[115,104,111,119,32]⟩:ByteArray)++bs (rngB l)=bs ([115,104,111,119,32]++rngB l)):=by
  show _=_;rw [← bs_append];rfl
 clear h hP hm hp;generalize bs (rngB l)=x at *;simp only [opVal];have hw2:=(bE w.heap.size w).alloc (lR _) (Obj.cells #[.int .i64 c,.int .i64 n,.int .i64 3,.int .i64 p,.string s,.slice a m cap,.int .i64 tc,.int .i64 tn,.bool on] 44);go_enter Tryz.func54,Tryz.ntmps54;go_wp2_with fail;refine (HP.out _ hw2).mono ?_;rintro e w1 ⟨rfl,hb1⟩;have hB:=hw2.trans (hb1.mono hw2.size);clear hw2 hb1 HP;have g1:¬ 9223372036854775807<5+x.size:=by omega
 go_wp2_with fail;go_ret;exact ⟨congrArg (fun b=>Ending.returned (.string b)) HR.out,hB⟩
theorem printWord_true {c n p:Int} {s:ByteArray} {l:List (Int×Int)} {tc tn:Int} {w:World} {a:Option Addr} {m cap:Nat} (h0:0≤tc) (h1:tc≤1048576) (h2:0≤tn) (h3:tn≤1048576) (hp:Pow w) :
  Calls Tryz.prog 54 #[opVal ⟨c,n,4,p,s,l,tc,tn,true⟩ (.slice a m cap)] w fun e w'=>e=.returned (.string (bs ([111,110,32]++idB tc tn)))∧Below w.heap.size w w':=by
 have HP:Hid (∀ w':World,Below w.heap.size w w'→Calls Tryz.prog 53 #[.agg #[.int .i64 tc,.int .i64 tn]] w' fun e w''=>e=.returned (.string (bs (idB tc tn)))∧Below w'.heap.size w' w''):=fun w' hb=>printID_any h0 h1 h2 h3 w' (hp.below hb)
 have q1:(bs (idB tc tn)).size≤100:=by rw [bs_size];exact idB_length h0 h1 h2 h3
 have HR:Hid ((⟨#[111,110,32]⟩:ByteArray)++bs (idB tc tn)=bs ([111,110,32]++idB tc tn)):=by
  show _=_;rw [← bs_append];rfl
 clear h0 h1 h2 h3 hp;generalize bs (idB tc tn)=x at *;simp only [opVal];have hw2:=(bE w.heap.size w).alloc (lR _) (Obj.cells #[.int .i64 c,.int .i64 n,.int .i64 4,.int .i64 p,.string s,.slice a m cap,.int .i64 tc,.int .i64 tn,.bool true] 44);go_enter Tryz.func54,Tryz.ntmps54;go_wp2_with fail;refine (HP.out _ hw2).mono ?_;rintro e w1 ⟨rfl,hb1⟩;have hB:=hw2.trans (hb1.mono hw2.size);clear hw2 hb1 HP;have g1:¬ 9223372036854775807<3+x.size:=by omega
 go_wp2_with fail;go_ret;exact ⟨congrArg (fun b=>Ending.returned (.string b)) HR.out,hB⟩
theorem printWord_false {c n p:Int} {s:ByteArray} {l:List (Int×Int)} {tc tn:Int} {w:World} {a:Option Addr} {m cap:Nat} (h0:0≤tc) (h1:tc≤1048576) (h2:0≤tn) (h3:tn≤1048576) (hp:Pow w) :
  Calls Tryz.prog 54 #[opVal ⟨c,n,4,p,s,l,tc,tn,false⟩ (.slice a m cap)] w fun e w'=>e=.returned (.string (bs ([111,102,102,32]++idB tc tn)))∧Below w.heap.size w w':=by
 have HP:Hid (∀ w':World,Below w.heap.size w w'→Calls Tryz.prog 53 #[.agg #[.int .i64 tc,.int .i64 tn]] w' fun e w''=>e=.returned (.string (bs (idB tc tn)))∧Below w'.heap.size w' w''):=fun w' hb=>printID_any h0 h1 h2 h3 w' (hp.below hb)
 have q1:(bs (idB tc tn)).size≤100:=by rw [bs_size];exact idB_length h0 h1 h2 h3
 have HR:Hid ((⟨#[111,102,102,32]⟩:ByteArray)++bs (idB tc tn)=bs ([111,102,102,32]++idB tc tn)):=by
  show _=_;rw [← bs_append];rfl
 clear h0 h1 h2 h3 hp;generalize bs (idB tc tn)=x at *;simp only [opVal];have hw2:=(bE w.heap.size w).alloc (lR _) (Obj.cells #[.int .i64 c,.int .i64 n,.int .i64 4,.int .i64 p,.string s,.slice a m cap,.int .i64 tc,.int .i64 tn,.bool false] 44);go_enter Tryz.func54,Tryz.ntmps54;go_wp2_with fail;refine (HP.out _ hw2).mono ?_;rintro e w1 ⟨rfl,hb1⟩;have hB:=hw2.trans (hb1.mono hw2.size);clear hw2 hb1 HP;have g1:¬ 9223372036854775807<4+x.size:=by omega
 go_wp2_with fail;go_ret;exact ⟨congrArg (fun b=>Ending.returned (.string b)) HR.out,hB⟩
def wordB (o:OpV):List UInt8 :=
 if o.k=1 then insB o.p o.s else if o.k=2 then [104,105,100,101,32]++rngB o.l else if o.k=3 then [115,104,111,119,32]++rngB o.l
 else if o.on=true then [111,110,32]++idB o.tc o.tn else [111,102,102,32]++idB o.tc o.tn
def printP (o:OpV):List UInt8:=idB o.c o.n++[32]++wordB o
theorem idP_bd {c n:Int} (h:(c=0∧n=0)∨isIdP c n=true):0≤c∧c≤1048576∧0≤n∧n≤1048576:=by
 rcases h with ⟨h1,h2⟩|h
 ·omega
 ·have:=of_decide_eq_true h;omega
theorem lst_places {l:List (Int×Int)} (h:Sp.Lst l):Places l:=fun r hr=>by have:=h.nonneg r hr;omega
theorem wordB_length {o:OpV} (h:Right o) (hs:o.s.size≤4194304):(wordB o).length≤50000000:=by
 unfold wordB;split
 ·rename_i e
  have h1:=quoted_le o.s;have h2:=h.ins e;have h3:=Lib.itoa_length_le o.p (by omega) (by omega);unfold insB;simp only [List.length_append,List.length_cons,List.length_nil];omega
 have hr:o.k=2∨o.k=3→(rngB o.l).length≤1500000:=fun e=>by
  have h1:=(h.rng e).2;have h2:=rngB_length (lst_places h1);have h3:=h1.few;omega
 split
 ·rename_i e
  have:=hr (.inl e);simp only [List.length_append,List.length_cons,List.length_nil];omega
 split
 ·rename_i e
  have:=hr (.inr e);simp only [List.length_append,List.length_cons,List.length_nil];omega
 have hk:o.k=4:=by have:=h.kind;omega
 have h1:=idP_bd (.inr (h.tgt hk).1);have h2:=idB_length h1.1 h1.2.1 h1.2.2.1 h1.2.2.2;split
 ·simp only [List.length_append,List.length_cons,List.length_nil];omega
 ·simp only [List.length_append,List.length_cons,List.length_nil];omega
theorem printWord_any {o:OpV} {w:World} {a:Option Addr} {m cap:Nat} (h:Rng w a m cap o.l) (hR:Right o) (hs:o.s.size≤4194304) (hp:Pow w) (hd:Deb w) :
  Calls Tryz.prog 54 #[opVal o (.slice a m cap)] w fun e w'=>e=.returned (.string (bs (wordB o)))∧Below w.heap.size w w':=by
 obtain ⟨c,n,k,p,s,l,tc,tn,on⟩:=o;have hk:=hR.kind;simp only at h hk hs;have hq:=quoted_le s;have:k=1∨k=2∨k=3∨k=4:=by omega
 rcases this with rfl|rfl|rfl|rfl
 ·have h1:=hR.ins rfl;exact printWord_1 h1.1 h1.2.1 hs (by omega) w hp hd
 ·have h1:=(hR.rng (.inl rfl)).2;exact printWord_2 h (lst_places h1) (by have:=h1.few;have:=h.len;simp only at *;omega) hp
 ·have h1:=(hR.rng (.inr rfl)).2;exact printWord_3 h (lst_places h1) (by have:=h1.few;have:=h.len;simp only at *;omega) hp
 ·have h1:=idP_bd (.inr (hR.tgt rfl).1);cases on with
  | true=>exact printWord_true h1.1 h1.2.1 h1.2.2.1 h1.2.2.2 hp
  | false=>exact printWord_false h1.1 h1.2.1 h1.2.2.1 h1.2.2.2 hp
theorem print_right {o:OpV} {w:World} {a:Option Addr} {m cap:Nat} (h:Rng w a m cap o.l) (hok:ownP o=0) (hs:o.s.size≤4194304) (hw:Bar w) (hp:Pow w) (hd:Deb w) :
  Calls Tryz.prog 20 #[opVal o (.slice a m cap)] w fun e w'=>e=.returned (.tuple #[.string (bs (printP o)),.int .i64 0])∧Below w.heap.size w w':=by
 have hR:=right_of hok;have HO:Hid (∀ (w':World),Below w.heap.size w w'→Calls Tryz.prog 52 #[opVal o (.slice a m cap)] w' fun e w''=>e=.returned (.int .i64 0)∧Below w'.heap.size w' w''):=fun w' hb=>by
  have h:=ownError_any (o:=o) (h.below hb) (show o.s.size≤9223372036854775807 by omega) (hw.below hb);rw [hok] at h;exact h
 have hcn:=idP_bd hR.id;have HP:Hid (∀ (w':World),Below w.heap.size w w'→Calls Tryz.prog 53 #[.agg #[.int .i64 o.c,.int .i64 o.n]] w' fun e w''=>e=.returned (.string (bs (idB o.c o.n)))∧Below w'.heap.size w' w''):=fun w' hb=>printID_any hcn.1 hcn.2.1 hcn.2.2.1 hcn.2.2.2 w' (hp.below hb)
 have HW:Hid (∀ (w':World),Below w.heap.size w w'→Calls Tryz.prog 54 #[opVal o (.slice a m cap)] w' fun e w''=>e=.returned (.string (bs (wordB o)))∧Below w'.heap.size w' w''):=fun w' hb=>printWord_any (h.below hb) hR hs (hp.below hb) (hd.below hb)
 have q1:(bs (idB o.c o.n)).size≤100:=by rw [bs_size];exact idB_length hcn.1 hcn.2.1 hcn.2.2.1 hcn.2.2.2
 have q2:(bs (wordB o)).size≤50000000:=by rw [bs_size];exact wordB_length hR hs
 have HR:Hid (bs (idB o.c o.n)++⟨#[32]⟩++bs (wordB o)=bs (printP o)):=by
  show _=_;unfold printP;rw [← bs_append,← bs_append];rfl
 clear h hok hs hw hp hd hcn hR;generalize bs (idB o.c o.n)=x at *;generalize bs (wordB o)=y at *;generalize bs (printP o)=z at *;obtain ⟨c,n,k,p,s,l,tc,tn,on⟩:=o;have g1:¬ 9223372036854775807<x.size+1:=by omega
 have g2:¬ 9223372036854775807<x.size+1+y.size:=by omega
 simp only [opVal] at *;have hw2:=(bE w.heap.size w).alloc (lR _) (Obj.cells #[.int .i64 c,.int .i64 n,.int .i64 k,.int .i64 p,.string s,.slice a m cap,.int .i64 tc,.int .i64 tn,.bool on] 44);go_enter Tryz.func20,Tryz.ntmps20;go_wp2_with fail;refine (HO.out _ hw2).mono ?_;rintro e w0 ⟨rfl,hb0⟩;have hB0:=hw2.trans (hb0.mono hw2.size);have k0:w0.cell? ⟨w.heap.size,0,none⟩=some (.int .i64 c):=(hb0.cell (p:=⟨w.heap.size,0,none⟩) (by simp)).trans (cM ..);have k1:w0.cell? ⟨w.heap.size,1,none⟩=some (.int .i64 n):=(hb0.cell (p:=⟨w.heap.size,1,none⟩) (by simp)).trans (cM ..);have k2:w0.cell? ⟨w.heap.size,2,none⟩=some (.int .i64 k):=(hb0.cell (p:=⟨w.heap.size,2,none⟩) (by simp)).trans (cM ..);have k3:w0.cell? ⟨w.heap.size,3,none⟩=some (.int .i64 p):=(hb0.cell (p:=⟨w.heap.size,3,none⟩) (by simp)).trans (cM ..);have k4:w0.cell? ⟨w.heap.size,4,none⟩=some (.string s):=(hb0.cell (p:=⟨w.heap.size,4,none⟩) (by simp)).trans (cM ..);have k5:w0.cell? ⟨w.heap.size,5,none⟩=some (.slice a m cap):=(hb0.cell (p:=⟨w.heap.size,5,none⟩) (by simp)).trans (cM ..);have k6:w0.cell? ⟨w.heap.size,6,none⟩=some (.int .i64 tc):=(hb0.cell (p:=⟨w.heap.size,6,none⟩) (by simp)).trans (cM ..);have k7:w0.cell? ⟨w.heap.size,7,none⟩=some (.int .i64 tn):=(hb0.cell (p:=⟨w.heap.size,7,none⟩) (by simp)).trans (cM ..);have k8:w0.cell? ⟨w.heap.size,8,none⟩=some (.bool on):=(hb0.cell (p:=⟨w.heap.size,8,none⟩) (by simp)).trans (cM ..);have hk:w.heap.size<w0.heap.size:=by have:=hb0.size;simp at this;omega
 have hcur:Below w0.heap.size w0 w0:=bE _ _;clear hw2 hb0 HO;go_wp2_with fail
 go_region_held3 (fun W=>W.cell? ⟨w.heap.size,0,none⟩=some (.int .i64 c)∧W.cell? ⟨w.heap.size,1,none⟩=some (.int .i64 n)∧W.cell? ⟨w.heap.size,2,none⟩=some (.int .i64 k)∧W.cell? ⟨w.heap.size,3,none⟩=some (.int .i64 p)∧W.cell? ⟨w.heap.size,4,none⟩=some (.string s)∧W.cell? ⟨w.heap.size,5,none⟩=some (.slice a m cap)∧W.cell? ⟨w.heap.size,6,none⟩=some (.int .i64 tc)∧W.cell? ⟨w.heap.size,7,none⟩=some (.int .i64 tn)∧W.cell? ⟨w.heap.size,8,none⟩=some (.bool on)) (first|exact ⟨k0,k1,k2,k3,k4,k5,k6,k7,k8⟩|exact ⟨e0,e1,e2,e3,e4,e5,e6,e7,e8⟩)
   (first
    | (go_at_call 53;refine (HP.out _ ?_).mono ?_;(first|exact hB0.trans (hcur.mono hB0.size)|exact hB0.trans (hcur.drew.mono hB0.size));rintro e w1 ⟨rfl,hb1⟩;have hcur:Below w0.heap.size w0 w1:=(by first|exact hcur.trans (hb1.mono hcur.size)|exact hcur.drew.trans (hb1.mono hcur.size));have e0:=(hcur.cell (p:=⟨w.heap.size,0,none⟩) hk).trans k0;have e1:=(hcur.cell (p:=⟨w.heap.size,1,none⟩) hk).trans k1;have e2:=(hcur.cell (p:=⟨w.heap.size,2,none⟩) hk).trans k2;have e3:=(hcur.cell (p:=⟨w.heap.size,3,none⟩) hk).trans k3;have e4:=(hcur.cell (p:=⟨w.heap.size,4,none⟩) hk).trans k4;have e5:=(hcur.cell (p:=⟨w.heap.size,5,none⟩) hk).trans k5;have e6:=(hcur.cell (p:=⟨w.heap.size,6,none⟩) hk).trans k6;have e7:=(hcur.cell (p:=⟨w.heap.size,7,none⟩) hk).trans k7;have e8:=(hcur.cell (p:=⟨w.heap.size,8,none⟩) hk).trans k8)
    | (go_at_call 54;refine (HW.out _ ?_).mono ?_;(first|exact hB0.trans (hcur.mono hB0.size)|exact hB0.trans (hcur.drew.mono hB0.size));rintro e w1 ⟨rfl,hb1⟩;have hcur:Below w0.heap.size w0 w1:=(by first|exact hcur.trans (hb1.mono hcur.size)|exact hcur.drew.trans (hb1.mono hcur.size));have e0:=(hcur.cell (p:=⟨w.heap.size,0,none⟩) hk).trans k0;have e1:=(hcur.cell (p:=⟨w.heap.size,1,none⟩) hk).trans k1;have e2:=(hcur.cell (p:=⟨w.heap.size,2,none⟩) hk).trans k2;have e3:=(hcur.cell (p:=⟨w.heap.size,3,none⟩) hk).trans k3;have e4:=(hcur.cell (p:=⟨w.heap.size,4,none⟩) hk).trans k4;have e5:=(hcur.cell (p:=⟨w.heap.size,5,none⟩) hk).trans k5;have e6:=(hcur.cell (p:=⟨w.heap.size,6,none⟩) hk).trans k6;have e7:=(hcur.cell (p:=⟨w.heap.size,7,none⟩) hk).trans k7;have e8:=(hcur.cell (p:=⟨w.heap.size,8,none⟩) hk).trans k8))
 all_goals
  go_wp2_with fail;go_ret2;exact ⟨congrArg (fun b=>Ending.returned (.tuple #[.string b,.int .i64 0])) HR.out,hB0.trans (hcur.mono hB0.size)⟩
theorem print_wrong {o:OpV} {w:World} {a:Option Addr} {m cap:Nat} (h:Rng w a m cap o.l) (hok:ownP o≠0) (hs:o.s.size≤9223372036854775807) (hw:Bar w) :
  Calls Tryz.prog 20 #[opVal o (.slice a m cap)] w fun e w'=>e=.returned (.tuple #[.string ⟨#[]⟩,.int .i64 (ownP o)])∧Below w.heap.size w w':=by
 have HO:Hid (∀ (w':World),Below w.heap.size w w'→Calls Tryz.prog 52 #[opVal o (.slice a m cap)] w' fun e w''=>e=.returned (.int .i64 (ownP o))∧Below w'.heap.size w' w''):=fun w' hb=>ownError_any (o:=o) (h.below hb) hs (hw.below hb)
 have t1:(ownP o==0)=false:=nB hok;clear h hok hs hw;generalize ownP o=r at *;obtain ⟨c,n,k,p,s,l,tc,tn,on⟩:=o;simp only [opVal] at *;have hw2:=(bE w.heap.size w).alloc (lR _) (Obj.cells #[.int .i64 c,.int .i64 n,.int .i64 k,.int .i64 p,.string s,.slice a m cap,.int .i64 tc,.int .i64 tn,.bool on] 44);go_enter Tryz.func20,Tryz.ntmps20;go_wp2_with fail;refine (HO.out _ hw2).mono ?_;rintro e w0 ⟨rfl,hb0⟩;have hB0:=hw2.trans (hb0.mono hw2.size);clear hw2 hb0 HO;go_wp2_with fail;go_ret2;exact ⟨rfl,hB0⟩
end Go.Proofs.YtijpfbcippijoaaGreatDoor
