import Derived.Test.YtijpfbcippijoaaGreatDoorAl
import Derived.Test.YtijpfbcippijoaaGreatDoorGr120
import Derived.Test.YtijpfbcippijoaaGreatDoorGr134
set_option maxHeartbeats 4000000
set_option maxRecDepth 100000
namespace Go.Proofs.YtijpfbcippijoaaGreatDoor
open Go.RowKit Go.Lib
def mkPiece (rs:List Int) (h:Int):Tr:=if rs=[] then .nil else .leaf rs h 0
theorem mkPiece_nil (h:Int):mkPiece [] h=.nil:=if_pos rfl
theorem mkPiece_leaf {rs:List Int} (h:Int) (hr:rs≠[]):mkPiece rs h=.leaf rs h 0:=if_neg hr
theorem piece_any {w:World} {a:Option Addr} {n cap:Nat} {rs:List Int} (h:RwN w a n cap rs) (hid:Int) (hn:n≤2097152) :
  Calls Tryz.prog 55 #[.slice a n cap,.int .i64 hid] w fun e w'=>∃ g,e=.returned (ptr g)∧At w' (mkPiece rs hid) g∧Below w.heap.size w w':=by
 have hlen:=h.rw_.len;unfold ptr;by_cases h0:n=0
 ·subst h0;obtain rfl:rs=[]:=List.eq_nil_of_length_eq_zero hlen;rw [mkPiece_nil];go_enter Tryz.func55,Tryz.ntmps55;go_wp2_with fail;go_ret;exact ⟨w.heap.size,rfl,heap_alloc_new _ _,(bE _ _).alloc (lR _) _⟩
 ·have hz:((n:Int)==0)=false:=by rw [beq_eq_false_iff_ne];omega
  have hne:rs≠[]:=by intro e;rw [e] at hlen;simp at hlen;omega
  rw [mkPiece_leaf hid hne];have HRW:Hid (RwN w a n cap rs):=h;have HL:Hid (rs.length=n):=hlen;clear h0 h hlen;go_enter Tryz.func55,Tryz.ntmps55;go_wp2_with fail;go_ret;have hB:Below w.heap.size w ((w.alloc (.cells #[.int .i64 (n:Int),.int .i64 hid] 92)).alloc (.cells (nodeCells (pieceSm n hid) (.slice a n cap) (.pointer none) (.pointer none) 0) 96)):=((bE _ _).alloc (lR _) _).alloc (by simp) _;refine ⟨w.heap.size+1,rfl,⟨a,cap,?_,?_⟩,hB⟩
  ·rw [HL.out];simp only [Tr.sm];rw [HL.out];have:=heap_alloc_new (w.alloc (.cells #[.int .i64 (n:Int),.int .i64 hid] 92)) (.cells (nodeCells (pieceSm n hid) (.slice a n cap) (.pointer none) (.pointer none) 0) 96);simp only [World.size_alloc] at this;exact this
  ·rw [HL.out];exact HRW.out.below hB
def Sm.bothN (s t:Sm) (x:Int):Sm:=⟨s.cells+t.cells,s.pieces+t.pieces,max s.high t.high+1,min s.least t.least,max s.most t.most,x,s.fc,s.fh,t.lc,t.lh⟩
theorem idx_l (s t:Sm) (w:World):(Instr.index 169 (.agg #[.int .i64 s.cells,.int .i64 s.pieces,.int .i64 s.high,.int .i64 s.least,.int .i64 s.most,.int .i64 s.lowest,.int .i64 s.fc,.int .i64 s.fh,.int .i64 s.lc,.int .i64 s.lh,.int .i64 t.cells,.int .i64 t.pieces,.int .i64 t.high,.int .i64 t.least,.int .i64 t.most,.int .i64 t.lowest,.int .i64 t.fc,.int .i64 t.fh,.int .i64 t.lc,.int .i64 t.lh]) (.int .i64 0)).run Tryz.prog w=.ok (.agg #[.int .i64 s.cells,.int .i64 s.pieces,.int .i64 s.high,.int .i64 s.least,.int .i64 s.most,.int .i64 s.lowest,.int .i64 s.fc,.int .i64 s.fh,.int .i64 s.lc,.int .i64 s.lh]) w:=by kernel_rfl
theorem idx_r (s t:Sm) (w:World):(Instr.index 169 (.agg #[.int .i64 s.cells,.int .i64 s.pieces,.int .i64 s.high,.int .i64 s.least,.int .i64 s.most,.int .i64 s.lowest,.int .i64 s.fc,.int .i64 s.fh,.int .i64 s.lc,.int .i64 s.lh,.int .i64 t.cells,.int .i64 t.pieces,.int .i64 t.high,.int .i64 t.least,.int .i64 t.most,.int .i64 t.lowest,.int .i64 t.fc,.int .i64 t.fh,.int .i64 t.lc,.int .i64 t.lh]) (.int .i64 1)).run Tryz.prog w=.ok (.agg #[.int .i64 t.cells,.int .i64 t.pieces,.int .i64 t.high,.int .i64 t.least,.int .i64 t.most,.int .i64 t.lowest,.int .i64 t.fc,.int .i64 t.fh,.int .i64 t.lc,.int .i64 t.lh]) w:=by kernel_rfl
def zeroTen:Array Value:=#[.int .i64 0,.int .i64 0,.int .i64 0,.int .i64 0,.int .i64 0,.int .i64 0,.int .i64 0,.int .i64 0,.int .i64 0,.int .i64 0]
def part (s t:Sm) (i:Nat):Int:=match i with
 | 0=>0
 | 1=>lowOf s.least s.lowest (min s.least t.least)
 | _=>lowOf s.least s.lowest (min s.least t.least)+lowOf t.least t.lowest (min s.least t.least)
theorem part_bd (s t:Sm) (h1:0≤s.lowest∧s.lowest≤2097152) (h2:0≤t.lowest∧t.lowest≤2097152):0≤lowOf s.least s.lowest (min s.least t.least)∧lowOf s.least s.lowest (min s.least t.least)≤2097152:=by
 have _u:=h2;unfold lowOf;split<;>omega
theorem sumsCells {w:World} {b:Nat} {s:Sm} (h:w.heap[b]?=some (.cells s.vals 94)):w.cell? ⟨b,0,none⟩=some (.int .i64 s.cells)∧w.cell? ⟨b,1,none⟩=some (.int .i64 s.pieces)∧w.cell? ⟨b,2,none⟩=some (.int .i64 s.high)∧w.cell? ⟨b,3,none⟩=some (.int .i64 s.least)∧w.cell? ⟨b,4,none⟩=some (.int .i64 s.most)∧w.cell? ⟨b,5,none⟩=some (.int .i64 s.lowest)∧w.cell? ⟨b,6,none⟩=some (.int .i64 s.fc)∧w.cell? ⟨b,7,none⟩=some (.int .i64 s.fh)∧w.cell? ⟨b,8,none⟩=some (.int .i64 s.lc)∧w.cell? ⟨b,9,none⟩=some (.int .i64 s.lh):=by
 refine ⟨?_,?_,?_,?_,?_,?_,?_,?_,?_,?_⟩<;>(simp only [World.cell?,h];rfl)
theorem smWith_any (s t:Sm) (hs:SmBd s) (ht:SmBd t) (w:World) :
  Calls Tryz.prog 89 #[.agg s.vals,.agg t.vals] w fun e w'=>e=.returned (.agg (s.both t).vals)∧Below w.heap.size w w':=by
 obtain ⟨b0,b1,b2,b3,b4,b5,b6,b7,b8,b9⟩:=hs;obtain ⟨a0,a1,a2,a3,a4,a5,a6,a7,a8,a9⟩:=ht;have hpb:=part_bd s t b5 a5;have hmx:=max_run;have hmn:=min_run;have HEND:Hid ((s.bothN t (part s t 2)).vals=(s.both t).vals):=rfl;generalize (s.both t).vals=V at *;unfold Sm.vals;go_enter Tryz.func89,Tryz.ntmps89;go_wp2_with fail;clear hmx hmn;go_loopw [42] (fun vi w'=>∃ i:Nat,i≤2∧vi=.int .i64 (i:Int)∧Below w.heap.size w w'∧w'.heap[w.heap.size+1+1]?=some (.cells zeroTen 94)∧w'.heap[w.heap.size+1+1+1]?=some (.cells (s.bothN t (part s t i)).vals 94)) (fun i _=>2-(RowKit.intOf i).toNat)
 case atStart =>
  refine ⟨0,by omega,rfl,((((bE _ _).alloc (lR _) _).alloc (by simp) _).alloc (by simp;omega) _).alloc (by simp;omega) _,?_,?_⟩
  ·refine (Below.heap_alloc _ _ _ (by simp)).trans ?_;have:=heap_alloc_new ((w.alloc (.cells s.vals 94)).alloc (.cells t.vals 94)) (.cells zeroTen 94);simp only [World.size_alloc] at this;exact this
  ·have:=heap_alloc_new (((w.alloc (.cells s.vals 94)).alloc (.cells t.vals 94)).alloc (.cells zeroTen 94)) (.cells (s.bothN t (part s t 0)).vals 94);simp only [World.size_alloc] at this;exact this
 case round =>
  obtain ⟨i,hi,rfl,hb,hz,hB⟩:=hrel;have hlt2:w.heap.size+1+1<wr.heap.size:=(gA hz);have hlt3:w.heap.size+1+1+1<wr.heap.size:=(gA hB);have hfz:wr.frozen? ⟨w.heap.size+1+1+1,5,none⟩=false:=frozen_of_row wr _ 5 _ _ hB;have c3:wr.cell? ⟨w.heap.size+1+1+1,3,none⟩=some (.int .i64 (min s.least t.least)):=by simp only [World.cell?,hB];rfl
  have c5:wr.cell? ⟨w.heap.size+1+1+1,5,none⟩=some (.int .i64 (part s t i)):=by simp only [World.cell?,hB];rfl
  have HB:Hid (wr.heap[w.heap.size+1+1+1]?=some (.cells (s.bothN t (part s t i)).vals 94)):=hB;clear hB;have hcs:i=0∨i=1∨i=2:=by omega
  rcases hcs with rfl|rfl|rfl
  ·obtain ⟨y,hy⟩:∃ y,part s t 0=y:=⟨_,rfl⟩;have hyb:0≤y∧y≤2097152:=by rw [← hy];simp only [part];omega
   have HY:Hid (part s t 0=y):=hy;rw [hy] at c5;clear hy;have hix:=idx_l s t;by_cases he:s.least=min s.least t.least
   ·have hq:(s.least==min s.least t.least)=true:=by rw [beq_iff_eq];exact he
    have HP:Hid (part s t 1=y+s.lowest):=by
     show _=_;rw [← HY.out];simp only [part];rw [show lowOf s.least s.lowest (min s.least t.least)=s.lowest from if_pos he]
     try omega
    clear he;go_wp2_with fail;refine ⟨⟨1,by omega,by go_num,(hb.setCell (p:=⟨w.heap.size+1+1+1,5,none⟩) (by simp only;omega) _).alloc (by simp;omega) _,?_,?_⟩,by simp [RowKit.intOf]⟩
    ·refine (Below.heap_alloc _ _ _ (by simp;omega)).trans ?_;rw [heap_setCell_other _ _ _ _ (by simp only;omega)];exact hz
    ·refine (Below.heap_alloc _ _ _ (by simp;omega)).trans ?_;have h5:=heap_setCell_same wr (w.heap.size+1+1+1) 5 _ _ (.int .i64 (y+s.lowest)) HB.out;refine h5.trans ?_;rw [HP.out];simp [Sm.vals,Sm.bothN]
   ·have hq:(s.least==min s.least t.least)=false:=by rw [beq_eq_false_iff_ne];exact he
    have HP:Hid (part s t 1=part s t 0):=by
     show _=_;simp only [part];rw [show lowOf s.least s.lowest (min s.least t.least)=0 from if_neg he]
     try omega
    clear he;go_wp2_with fail;refine ⟨⟨1,by omega,by go_num,hb.alloc hb.size _,(Below.heap_alloc _ _ _ hlt2).trans hz,(Below.heap_alloc _ _ _ hlt3).trans ?_⟩,by simp [RowKit.intOf]⟩;rw [HP.out];exact HB.out
  ·obtain ⟨y,hy⟩:∃ y,part s t 1=y:=⟨_,rfl⟩;have hyb:0≤y∧y≤2097152:=by rw [← hy];simp only [part];omega
   have HY:Hid (part s t 1=y):=hy;rw [hy] at c5;clear hy;have hix:=idx_r s t;by_cases he:t.least=min s.least t.least
   ·have hq:(t.least==min s.least t.least)=true:=by rw [beq_iff_eq];exact he
    have HP:Hid (part s t 2=y+t.lowest):=by
     show _=_;rw [← HY.out];simp only [part];rw [show lowOf t.least t.lowest (min s.least t.least)=t.lowest from if_pos he]
     try omega
    clear he;go_wp2_with fail;refine ⟨⟨2,by omega,by go_num,(hb.setCell (p:=⟨w.heap.size+1+1+1,5,none⟩) (by simp only;omega) _).alloc (by simp;omega) _,?_,?_⟩,by simp [RowKit.intOf]⟩
    ·refine (Below.heap_alloc _ _ _ (by simp;omega)).trans ?_;rw [heap_setCell_other _ _ _ _ (by simp only;omega)];exact hz
    ·refine (Below.heap_alloc _ _ _ (by simp;omega)).trans ?_;have h5:=heap_setCell_same wr (w.heap.size+1+1+1) 5 _ _ (.int .i64 (y+t.lowest)) HB.out;refine h5.trans ?_;rw [HP.out];simp [Sm.vals,Sm.bothN]
   ·have hq:(t.least==min s.least t.least)=false:=by rw [beq_eq_false_iff_ne];exact he
    have HP:Hid (part s t 2=part s t 1):=by
     show _=_;simp only [part];rw [show lowOf t.least t.lowest (min s.least t.least)=0 from if_neg he]
     try omega
    clear he;go_wp2_with fail;refine ⟨⟨2,by omega,by go_num,hb.alloc hb.size _,(Below.heap_alloc _ _ _ hlt2).trans hz,(Below.heap_alloc _ _ _ hlt3).trans ?_⟩,by simp [RowKit.intOf]⟩;rw [HP.out];exact HB.out
  ·have hB:=HB.out;have HV:=HEND.out;obtain ⟨c0,c1,c2,c3',c4,c5',c6,c7,c8,c9⟩:=sumsCells HB.out;have d0:wr.cell? ⟨w.heap.size+1+1,0,none⟩=some (.int .i64 0):=by simp only [World.cell?,hz];rfl
   have f0:wr.frozen? ⟨w.heap.size+1+1,0,none⟩=false:=frozen_of_row wr _ 0 _ _ hz;have d1:wr.cell? ⟨w.heap.size+1+1,1,none⟩=some (.int .i64 0):=by simp only [World.cell?,hz];rfl
   have f1:wr.frozen? ⟨w.heap.size+1+1,1,none⟩=false:=frozen_of_row wr _ 1 _ _ hz;have d2:wr.cell? ⟨w.heap.size+1+1,2,none⟩=some (.int .i64 0):=by simp only [World.cell?,hz];rfl
   have f2:wr.frozen? ⟨w.heap.size+1+1,2,none⟩=false:=frozen_of_row wr _ 2 _ _ hz;have d3:wr.cell? ⟨w.heap.size+1+1,3,none⟩=some (.int .i64 0):=by simp only [World.cell?,hz];rfl
   have f3:wr.frozen? ⟨w.heap.size+1+1,3,none⟩=false:=frozen_of_row wr _ 3 _ _ hz;have d4:wr.cell? ⟨w.heap.size+1+1,4,none⟩=some (.int .i64 0):=by simp only [World.cell?,hz];rfl
   have f4:wr.frozen? ⟨w.heap.size+1+1,4,none⟩=false:=frozen_of_row wr _ 4 _ _ hz;have d5:wr.cell? ⟨w.heap.size+1+1,5,none⟩=some (.int .i64 0):=by simp only [World.cell?,hz];rfl
   have f5:wr.frozen? ⟨w.heap.size+1+1,5,none⟩=false:=frozen_of_row wr _ 5 _ _ hz;have d6:wr.cell? ⟨w.heap.size+1+1,6,none⟩=some (.int .i64 0):=by simp only [World.cell?,hz];rfl
   have f6:wr.frozen? ⟨w.heap.size+1+1,6,none⟩=false:=frozen_of_row wr _ 6 _ _ hz;have d7:wr.cell? ⟨w.heap.size+1+1,7,none⟩=some (.int .i64 0):=by simp only [World.cell?,hz];rfl
   have f7:wr.frozen? ⟨w.heap.size+1+1,7,none⟩=false:=frozen_of_row wr _ 7 _ _ hz;have d8:wr.cell? ⟨w.heap.size+1+1,8,none⟩=some (.int .i64 0):=by simp only [World.cell?,hz];rfl
   have f8:wr.frozen? ⟨w.heap.size+1+1,8,none⟩=false:=frozen_of_row wr _ 8 _ _ hz;have d9:wr.cell? ⟨w.heap.size+1+1,9,none⟩=some (.int .i64 0):=by simp only [World.cell?,hz];rfl
   have f9:wr.frozen? ⟨w.heap.size+1+1,9,none⟩=false:=frozen_of_row wr _ 9 _ _ hz;clear hz hB c3 c5 hfz HV HB;generalize s.bothN t (part s t 2)=S at *;have hle:w.heap.size≤w.heap.size+1+1:=by omega
   go_wp2_with fail;rw [← HEND.out];refine bodyPost_ret (v:=.agg #[.int .i64 S.cells,.int .i64 S.pieces,.int .i64 S.high,.int .i64 S.least,.int .i64 S.most,.int .i64 S.lowest,.int .i64 S.fc,.int .i64 S.fh,.int .i64 S.lc,.int .i64 S.lh]) (by simp [results,Tryz.results89,go_sem,d0,d1,d2,d3,d4,d5,d6,d7,d8,d9]) rfl ⟨rfl,?_⟩;exact ((((((((((hb.setCell (p:=⟨w.heap.size+1+1,0,none⟩) hle (.int .i64 S.cells)).setCell (p:=⟨w.heap.size+1+1,1,none⟩) hle (.int .i64 S.pieces)).setCell (p:=⟨w.heap.size+1+1,2,none⟩) hle (.int .i64 S.high)).setCell (p:=⟨w.heap.size+1+1,3,none⟩) hle (.int .i64 S.least)).setCell (p:=⟨w.heap.size+1+1,4,none⟩) hle (.int .i64 S.most)).setCell (p:=⟨w.heap.size+1+1,5,none⟩) hle (.int .i64 S.lowest)).setCell (p:=⟨w.heap.size+1+1,6,none⟩) hle (.int .i64 S.fc)).setCell (p:=⟨w.heap.size+1+1,7,none⟩) hle (.int .i64 S.fh)).setCell (p:=⟨w.heap.size+1+1,8,none⟩) hle (.int .i64 S.lc)).setCell (p:=⟨w.heap.size+1+1,9,none⟩) hle (.int .i64 S.lh))
theorem cell_al {w:World} {p:Addr} {v:Value} (h:w.cell? p=some v) (o:Obj):(w.alloc o).cell? p=some v :=
 (((bE w.heap.size w).alloc (lR _) o).cell (p:=p) (World.block_lt_of_cell? _ _ h)).trans h
theorem paired_sm {w:World} {a b:Tr} {ga gb:Nat} (ha:At w a ga) (hb:At w b gb) (sa:SmBd a.sm) (sb:SmBd b.sm) :
  Calls Tryz.prog 56 #[ptr ga,ptr gb] w fun e w'=>∃ g,e=.returned (ptr g)∧NodeAt w' g (a.sm.both b.sm) (.slice none 0 0) (.pointer (some ⟨ga,0,none⟩)) (.pointer (some ⟨gb,0,none⟩)) 0∧Below w.heap.size w w':=by
 have HW:=smWith_any a.sm b.sm sa sb;obtain ⟨c0,c1,c2,c3,c4,c5,c6,c7,c8,c9⟩:=ha.ten;obtain ⟨d0,d1,d2,d3,d4,d5,d6,d7,d8,d9⟩:=hb.ten;have hga:=ha.lt;have hgb:=hb.lt;clear ha hb sa sb;unfold ptr;have hcur:Below w.heap.size w w:=bE _ _;generalize a.sm=sa at *;generalize b.sm=sb at *;have HV:Hid ((sa.both sb).vals=#[.int .i64 (sa.both sb).cells,.int .i64 (sa.both sb).pieces,.int .i64 (sa.both sb).high,.int .i64 (sa.both sb).least,.int .i64 (sa.both sb).most,.int .i64 (sa.both sb).lowest,.int .i64 (sa.both sb).fc,.int .i64 (sa.both sb).fh,.int .i64 (sa.both sb).lc,.int .i64 (sa.both sb).lh]):=rfl;rw [HV.out] at HW;generalize sa.both sb=sc at *;clear HV;go_enter Tryz.func56,Tryz.ntmps56;go_wp2_with fail
 go_region_held3 (fun W=>W.cell? ⟨ga,0,none⟩=some (.int .i64 sa.cells)∧W.cell? ⟨ga,1,none⟩=some (.int .i64 sa.pieces)∧W.cell? ⟨ga,2,none⟩=some (.int .i64 sa.high)∧W.cell? ⟨ga,3,none⟩=some (.int .i64 sa.least)∧W.cell? ⟨ga,4,none⟩=some (.int .i64 sa.most)∧W.cell? ⟨ga,5,none⟩=some (.int .i64 sa.lowest)∧W.cell? ⟨ga,6,none⟩=some (.int .i64 sa.fc)∧W.cell? ⟨ga,7,none⟩=some (.int .i64 sa.fh)∧W.cell? ⟨ga,8,none⟩=some (.int .i64 sa.lc)∧W.cell? ⟨ga,9,none⟩=some (.int .i64 sa.lh)∧W.cell? ⟨gb,0,none⟩=some (.int .i64 sb.cells)∧W.cell? ⟨gb,1,none⟩=some (.int .i64 sb.pieces)∧W.cell? ⟨gb,2,none⟩=some (.int .i64 sb.high)∧W.cell? ⟨gb,3,none⟩=some (.int .i64 sb.least)∧W.cell? ⟨gb,4,none⟩=some (.int .i64 sb.most)∧W.cell? ⟨gb,5,none⟩=some (.int .i64 sb.lowest)∧W.cell? ⟨gb,6,none⟩=some (.int .i64 sb.fc)∧W.cell? ⟨gb,7,none⟩=some (.int .i64 sb.fh)∧W.cell? ⟨gb,8,none⟩=some (.int .i64 sb.lc)∧W.cell? ⟨gb,9,none⟩=some (.int .i64 sb.lh)) (first|exact ⟨c0,c1,c2,c3,c4,c5,c6,c7,c8,c9,d0,d1,d2,d3,d4,d5,d6,d7,d8,d9⟩|exact ⟨e0,e1,e2,e3,e4,e5,e6,e7,e8,e9,f0,f1,f2,f3,f4,f5,f6,f7,f8,f9⟩|exact ⟨cell_al e0 _,cell_al e1 _,cell_al e2 _,cell_al e3 _,cell_al e4 _,cell_al e5 _,cell_al e6 _,cell_al e7 _,cell_al e8 _,cell_al e9 _,cell_al f0 _,cell_al f1 _,cell_al f2 _,cell_al f3 _,cell_al f4 _,cell_al f5 _,cell_al f6 _,cell_al f7 _,cell_al f8 _,cell_al f9 _⟩)
  (first
   | (go_at_call 89;refine (HW _).mono ?_;rintro e w1 ⟨rfl,hb1⟩;have hcur:Below w.heap.size w w1:=(by first|exact hcur.trans (hb1.mono hcur.size)|exact hcur.drew.trans (hb1.mono hcur.size));have e0:=(hcur.cell (p:=⟨ga,0,none⟩) hga).trans c0;have e1:=(hcur.cell (p:=⟨ga,1,none⟩) hga).trans c1;have e2:=(hcur.cell (p:=⟨ga,2,none⟩) hga).trans c2;have e3:=(hcur.cell (p:=⟨ga,3,none⟩) hga).trans c3;have e4:=(hcur.cell (p:=⟨ga,4,none⟩) hga).trans c4;have e5:=(hcur.cell (p:=⟨ga,5,none⟩) hga).trans c5;have e6:=(hcur.cell (p:=⟨ga,6,none⟩) hga).trans c6;have e7:=(hcur.cell (p:=⟨ga,7,none⟩) hga).trans c7;have e8:=(hcur.cell (p:=⟨ga,8,none⟩) hga).trans c8;have e9:=(hcur.cell (p:=⟨ga,9,none⟩) hga).trans c9;have f0:=(hcur.cell (p:=⟨gb,0,none⟩) hgb).trans d0;have f1:=(hcur.cell (p:=⟨gb,1,none⟩) hgb).trans d1;have f2:=(hcur.cell (p:=⟨gb,2,none⟩) hgb).trans d2;have f3:=(hcur.cell (p:=⟨gb,3,none⟩) hgb).trans d3;have f4:=(hcur.cell (p:=⟨gb,4,none⟩) hgb).trans d4;have f5:=(hcur.cell (p:=⟨gb,5,none⟩) hgb).trans d5;have f6:=(hcur.cell (p:=⟨gb,6,none⟩) hgb).trans d6;have f7:=(hcur.cell (p:=⟨gb,7,none⟩) hgb).trans d7;have f8:=(hcur.cell (p:=⟨gb,8,none⟩) hgb).trans d8;have f9:=(hcur.cell (p:=⟨gb,9,none⟩) hgb).trans d9))
 all_goals
  go_wp2_with fail;go_ret;exact ⟨w1.heap.size,rfl,heap_alloc_new _ _,hcur.alloc hcur.size _⟩
theorem paired_any {w:World} {a b:Tr} {ga gb:Nat} (ha:At w a ga) (hb:At w b gb) (hwa:a.Ok) (hwb:b.Ok) (bda:a.Bd) (bdb:b.Bd) (hn:a.row.length+b.row.length≤2097152) :
  Calls Tryz.prog 56 #[ptr ga,ptr gb] w fun e w'=>∃ g,e=.returned (ptr g)∧At w' (.node a b 0) g∧Below w.heap.size w w':=by
 refine (paired_sm ha hb (Tr.smBd hwa bda (by omega)) (Tr.smBd hwb bdb (by omega))).mono ?_;rintro e w' ⟨g,rfl,hN,hB⟩;refine ⟨g,rfl,⟨ga,gb,?_,ha.below hB,hb.below hB⟩,hB⟩;have e0:(Tr.node a b 0).sm=a.sm.both b.sm:=by simp [Tr.sm,Sm.raised]
 rw [e0];exact hN
def ptrV (g:Nat):List Value:=[.pointer (some ⟨g,0,none⟩)]
theorem layG:Lay ptrV 1:=⟨fun _=>rfl,by decide,fun x u hu=>by simp [ptrV] at hu;rcases hu with rfl;rfl⟩
theorem kindG:Kind Tryz.prog 68 70 1 8:=kind_of Tryz.underlying68 (z:=.pointer none) (by kernel_rfl) rfl
theorem kindN:Kind Tryz.prog 74 21 1 4:=kind_of Tryz.underlying74 (z:=.int .i32 0) (by kernel_rfl) rfl
theorem elemG:Tryz.prog.elem 68=70:=by kernel_rfl
theorem elemN:Tryz.prog.elem 74=21:=by kernel_rfl
section
variable {S T : TypeId} {k by_ : Nat}
theorem cut_high (hK:Kind Tryz.prog S T k by_) (he:Tryz.prog.elem S=T) (W:World) (a:Option Addr) (n cap m:Nat) (hm:m≤cap):(Instr.slice S (.slice a n cap) none (some (.int .i64 (m:Int))) none).run Tryz.prog W=.ok (.slice a m cap) W:=by
 obtain ⟨i,z,hi,hz,hsz,hby,_⟩:=hK.info;have:=run_slice_h (P:=Tryz.prog) W S a n cap (by rw [he];exact hK.under) .i64 (m:Int) (by omega) (by omega);rw [this,he];simp [sizeOf,typeInfo,hi,hsz,sliced,Addr.add]
theorem cut_low (hK:Kind Tryz.prog S T k by_) (he:Tryz.prog.elem S=T) (W:World) (g off n cap m:Nat) (hm:m≤n) (hc:m<cap):(Instr.slice S (.slice (some ⟨g,off,none⟩) n cap) (some (.int .i64 (m:Int))) none none).run Tryz.prog W=.ok (.slice (some ⟨g,off+m*k,none⟩) (n-m) (cap-m)) W:=by
 obtain ⟨i,z,hi,hz,hsz,hby,_⟩:=hK.info;have:=run_slice_l (P:=Tryz.prog) W S (some ⟨g,off,none⟩) n cap (by rw [he];exact hK.under) .i64 (m:Int) (by omega) (by omega);rw [this,he];simp [sizeOf,typeInfo,hi,hsz,sliced,addr_add'];omega
theorem cut_both (hK:Kind Tryz.prog S T k by_) (he:Tryz.prog.elem S=T) (W:World) (g off n cap m q:Nat) (hm:m≤q) (hq:q≤cap) (hc:m<cap):(Instr.slice S (.slice (some ⟨g,off,none⟩) n cap) (some (.int .i64 (m:Int))) (some (.int .i64 (q:Int))) none).run Tryz.prog W=.ok (.slice (some ⟨g,off+m*k,none⟩) (q-m) (cap-m)) W:=by
 obtain ⟨i,z,hi,hz,hsz,hby,_⟩:=hK.info;have:=run_slice_lh (P:=Tryz.prog) W S (some ⟨g,off,none⟩) n cap (by rw [he];exact hK.under) .i64 .i64 (m:Int) (q:Int) (by omega) (by omega) (by omega);rw [this,he];simp [sizeOf,typeInfo,hi,hsz,sliced,addr_add'];omega
end
def Ats (w:World) (ts:List Tr) (gs:List Nat):Prop:=ts.length=gs.length∧∀ (j:Nat) (t:Tr) (g:Nat),ts[j]?=some t→gs[j]?=some g→At w t g
theorem Ats.below {w w':World} {ts:List Tr} {gs:List Nat} (h:Ats w ts gs) (hb:Below w.heap.size w w'):Ats w' ts gs:=⟨h.1,fun j t g h1 h2=>(h.2 j t g h1 h2).below hb⟩
theorem Ats.take {w:World} {ts:List Tr} {gs:List Nat} (h:Ats w ts gs) (m:Nat):Ats w (ts.take m) (gs.take m):=by
 refine ⟨by simp [h.1],fun j t g h1 h2=>?_⟩;rw [List.getElem?_take] at h1 h2;split at h1
 ·rename_i hj
  rw [if_pos hj] at h2;exact h.2 j t g h1 h2
 ·cases h1
theorem Ats.drop {w:World} {ts:List Tr} {gs:List Nat} (h:Ats w ts gs) (m:Nat):Ats w (ts.drop m) (gs.drop m):=by
 refine ⟨by simp [h.1],fun j t g h1 h2=>?_⟩;rw [List.getElem?_drop] at h1 h2;exact h.2 _ t g h1 h2
theorem rowOf_lvs_append (ts us:List Tr):rowOf (lvs (ts++us))=rowOf (lvs ts)++rowOf (lvs us):=by simp [lvs,rowOf]
theorem grown_len:∀ (b n:Nat),n≤b→∀ {w:World} {a:Option Addr} {cap:Nat} {ts:List Tr} {gs:List Nat},Rw ptrV 1 w a n cap gs→Ats w ts gs→(∀ t∈ts,t.isLeaf∧t.Bd)→n≤1048576→(rowOf (lvs ts)).length≤1048576 →
  Calls Tryz.prog 23 #[.slice a n cap] w fun e w'=>∃ g t,e=.returned (ptr g)∧At w' t g∧Built ts t∧Below w.heap.size w w':=by
 intro b
 induction b with
 | zero =>
  intro n hb w a cap ts gs hr hA ht hn hl;obtain rfl:n=0:=by omega
  have hlen:=hr.len;have hal:=hA.1;obtain rfl:ts=[]:=List.eq_nil_of_length_eq_zero (by omega);unfold ptr;go_enter Tryz.func23,Tryz.ntmps23;go_wp2_with fail;go_ret;exact ⟨w.heap.size,.nil,rfl,heap_alloc_new _ _,built_nil,(bE _ _).alloc (lR _) _⟩
 | succ b ih =>
  intro n hb w a cap ts gs hr hA ht hn hl;by_cases hlt:n≤b
  ·exact ih n hlt hr hA ht hn hl
  obtain rfl:n=b+1:=by omega
  have hlen:=hr.len;have hal:=hA.1;have hroom:=hr.room;by_cases h1:b=0
  ·subst h1;obtain ⟨g,off,x,rfl,hg,hx,hc⟩:=hr.at 0 (by omega);have c0:=hc 0 _ rfl;simp only [Nat.zero_mul,Nat.add_zero] at c0;obtain ⟨t,rfl⟩:∃ t,ts=[t]:=List.length_eq_one_iff.1 (by omega);have hAt:=hA.2 0 t x rfl hx;have htl:=ht t (by simp);clear hc hx;unfold ptr;go_enter Tryz.func23,Tryz.ntmps23;go_wp2_with fail;go_ret;exact ⟨x,t,rfl,hAt,built_one htl.1 htl.2,bE _ _⟩
  ·obtain ⟨m,hm⟩:∃ m,(b+1) / 2=m:=⟨_,rfl⟩;have hm1:1≤m:=by omega
   have hm2:m≤b:=by omega
   have hmi:((b:Int)+1) / 2=(m:Int):=by omega
   obtain ⟨g,off,rfl,hg,_⟩:=hr.cells (by omega);have hsum:rowOf (lvs ts)=rowOf (lvs (ts.take m))++rowOf (lvs (ts.drop m)):=by rw [← rowOf_lvs_append,List.take_append_drop]
   rw [hsum,List.length_append] at hl;have HL:Hid (∀ W,Below w.heap.size w W→Calls Tryz.prog 23 #[.slice (some ⟨g,off,none⟩) m cap] W fun e w'=>∃ g t,e=.returned (.pointer (some ⟨g,0,none⟩))∧At w' t g∧Built (ts.take m) t∧Below W.heap.size W w'):=fun W hW=>ih m hm2 ((hr.take m (by omega)).below hW) ((hA.take m).below hW) (fun t h=>ht t (List.mem_of_mem_take h)) (by omega) (by omega)
   have HR:Hid (∀ W,Below w.heap.size w W→Calls Tryz.prog 23 #[.slice (some ⟨g,off+m,none⟩) (b+1-m) (cap-m)] W fun e w'=>∃ g t,e=.returned (.pointer (some ⟨g,0,none⟩))∧At w' t g∧Built (ts.drop m) t∧Below W.heap.size W w'):=fun W hW=>by
    have h2:=hr.drop m (by omega);rw [Nat.mul_one] at h2;exact ih (b+1-m) (by omega) (h2.below hW) ((hA.drop m).below hW) (fun t h=>ht t (List.mem_of_mem_drop h)) (by omega) (by omega)
   have HE:Hid (∀ a b,Built (ts.take m) a→Built (ts.drop m) b→Built ts (.node a b 0)∧a.row.length+b.row.length≤2097152):=fun x y hx hy=>by
    have h3:=hx.two hy (b+1) (by omega) (by rw [List.length_take];omega) (by rw [List.length_drop];omega);rw [List.take_append_drop] at h3;refine ⟨h3,?_⟩;rw [hx.row,hy.row];omega
   clear ih hr hA ht hsum hl hal hlen hb hlt hg;have hcur:Below w.heap.size w w:=bE _ _;have z0:((b:Int)+1==0)=false:=by rw [beq_eq_false_iff_ne];omega
   have z1:((b:Int)+1==1)=false:=by rw [beq_eq_false_iff_ne];omega
   have i1:(0:Int)≤(m:Int):=by omega
   have i2:(m:Int)≤((b+1:Nat):Int):=by omega
   have i3:(m:Int)≤(cap:Int):=by omega
   have hk1:∀ W,(Instr.slice 68 (.slice (some ⟨g,off,none⟩) (b+1) cap) none (some (.int .i64 (m:Int))) none).run Tryz.prog W=.ok (.slice (some ⟨g,off,none⟩) m cap) W:=fun W=>cut_high kindG elemG W _ _ _ m (by omega)
   have hk2:∀ W,(Instr.slice 68 (.slice (some ⟨g,off,none⟩) (b+1) cap) (some (.int .i64 (m:Int))) none none).run Tryz.prog W=.ok (.slice (some ⟨g,off+m,none⟩) (b+1-m) (cap-m)) W:=fun W=>by
    have:=cut_low kindG elemG W g off (b+1) cap m (by omega) (by omega);rw [Nat.mul_one] at this;exact this
   generalize cap-m=cm at *;generalize hbm:b+1-m=bm at *;clear hbm;unfold ptr;go_enter Tryz.func23,Tryz.ntmps23;go_wp2_with fail;rw [hmi];clear hm hmi h1 z0 z1
   go_region_held3 (fun _=>True) (trivial)
    (first
     | (go_at_call 56;refine (paired_any hl2 hr1 htl.ok_ htr.ok_ htl.bd htr.bd hsz).mono ?_;rintro e w3 ⟨g3,rfl,hN3,hb3⟩;have hcur:Below w.heap.size w w3:=hcur.trans (hb3.mono hcur.size))
     | (go_at_call_of 23 (Value.slice (some ⟨g,off,none⟩) m cap);refine (HL.out _ ?_).mono ?_;(first|exact hcur|exact hcur.drew);rintro e w1 ⟨gl,tl,rfl,hl1,htl,hb1⟩;have hcur:Below w.heap.size w w1:=(by first|exact hcur.trans (hb1.mono hcur.size)|exact hcur.drew.trans (hb1.mono hcur.size)))
     | (go_at_call_of 23 (Value.slice (some ⟨g,off+m,none⟩) bm cm);refine (HR.out _ ?_).mono ?_;(first|exact hcur|exact hcur.drew);rintro e w2 ⟨gr,tr,rfl,hr1,htr,hb2⟩;have hl2:=hl1.below hb2;have hcur:Below w.heap.size w w2:=(by first|exact hcur.trans (hb2.mono hcur.size)|exact hcur.drew.trans (hb2.mono hcur.size));obtain ⟨hbt,hsz⟩:=HE.out _ _ htl htr))
   all_goals
    go_wp2_with fail;go_ret;exact ⟨g3,_,rfl,hN3,hbt,hcur⟩
end Go.Proofs.YtijpfbcippijoaaGreatDoor
