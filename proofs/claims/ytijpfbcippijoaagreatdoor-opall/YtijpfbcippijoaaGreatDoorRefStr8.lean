import Derived.Test.YtijpfbcippijoaaGreatDoorGr119
import Derived.Maps.AppendAt
import Derived.Laws.BytesArg
set_option maxHeartbeats 1000000
set_option maxRecDepth 100000
namespace Go.Proofs.YtijpfbcippijoaaGreatDoor
open Go.RowKit Go.Lib
theorem bytes_1 (r:Int) (h0:0≤r) (h1:r<128) (w:World) :
  Calls Tryz.prog 141 #[.int .i64 r] w fun e w'=>e=.returned (.slice (some ⟨w.heap.size,0,none⟩) 1 1)∧w'=w.alloc (.cells #[.int .u8 r] 5):=by
 go_enter Tryz.func141,Tryz.ntmps141;go_wp2_with fail;go_ret;exact ⟨rfl,rfl⟩
theorem bytes_2 (r:Int) (h0:128≤r) (h1:r<2048) (w:World) :
  Calls Tryz.prog 141 #[.int .i64 r] w fun e w'=>e=.returned (.slice (some ⟨w.heap.size,0,none⟩) 2 2)∧w'=w.alloc (.cells #[.int .u8 (192+r / 64),.int .u8 (128+r % 64)] 5):=by
 go_enter Tryz.func141,Tryz.ntmps141;go_wp2_with fail;go_ret;exact ⟨rfl,rfl⟩
theorem bytes_3 (r:Int) (h0:2048≤r) (h1:r<65536) (w:World) :
  Calls Tryz.prog 141 #[.int .i64 r] w fun e w'=>e=.returned (.slice (some ⟨w.heap.size,0,none⟩) 3 3)∧w'=w.alloc (.cells #[.int .u8 (224+r / 4096),.int .u8 (128+r / 64 % 64),.int .u8 (128+r % 64)] 5):=by
 go_enter Tryz.func141,Tryz.ntmps141;go_wp2_with fail;go_ret;exact ⟨rfl,rfl⟩
theorem bytes_4 (r:Int) (h0:65536≤r) (h1:r≤1114111) (w:World) :
  Calls Tryz.prog 141 #[.int .i64 r] w fun e w'=>e=.returned (.slice (some ⟨w.heap.size,0,none⟩) 4 4)∧w'=w.alloc (.cells #[.int .u8 (240+r / 262144),.int .u8 (128+r / 4096 % 64),.int .u8 (128+r / 64 % 64),.int .u8 (128+r % 64)] 5):=by
 go_enter Tryz.func141,Tryz.ntmps141;go_wp2_with fail;go_ret;exact ⟨rfl,rfl⟩
theorem toNat_u8 (n:Nat) (h:n<256):((UInt8.ofNat n).toNat:Int)=n:=by
 rw [UInt8.toNat_ofNat'];omega
theorem bytes_any (r:Int) (hv:Utf8.valid r=true) (w:World) :
  Calls Tryz.prog 141 #[.int .i64 r] w fun e w'=>∃ C:Array Value,e=.returned (.slice (some ⟨w.heap.size,0,none⟩) (encB r).length (encB r).length)∧w'=w.alloc (.cells C 5)∧C.toList=Lib.byteCells (encB r):=by
 obtain ⟨h0,h1,_⟩:=valid_le hv;obtain ⟨c,rfl⟩:=Int.eq_ofNat_of_zero_le h0;by_cases k1:c<128
 ·refine (bytes_1 c (by omega) (by omega) w).mono ?_;rintro e w' ⟨rfl,rfl⟩;rw [encB1 c k1];exact ⟨_,rfl,rfl,by simp only [Lib.byteCells,List.map_cons,List.map_nil,toNat_u8 c (by omega)]⟩
 ·by_cases k2:c<2048
  ·refine (bytes_2 c (by omega) (by omega) w).mono ?_;rintro e w' ⟨rfl,rfl⟩;rw [encB2 c k2 (by omega)];refine ⟨_,rfl,rfl,?_⟩;simp only [Lib.byteCells,List.map_cons,List.map_nil,toNat_u8 (0xC0+c / 64) (by omega),toNat_u8 (0x80+c % 64) (by omega)];rfl
  ·by_cases k3:c<65536
   ·refine (bytes_3 c (by omega) (by omega) w).mono ?_;rintro e w' ⟨rfl,rfl⟩;rw [encB3 c k3 (by omega) hv];refine ⟨_,rfl,rfl,?_⟩;simp only [Lib.byteCells,List.map_cons,List.map_nil,toNat_u8 (0xE0+c / 4096) (by omega),toNat_u8 (0x80+c / 64 % 64) (by omega),toNat_u8 (0x80+c % 64) (by omega)];rfl
   ·refine (bytes_4 c (by omega) (by omega) w).mono ?_;rintro e w' ⟨rfl,rfl⟩;rw [encB4 c (by omega) hv];refine ⟨_,rfl,rfl,?_⟩;simp only [Lib.byteCells,List.map_cons,List.map_nil,toNat_u8 (0xF0+c / 262144) (by omega),toNat_u8 (0x80+c / 4096 % 64) (by omega),toNat_u8 (0x80+c / 64 % 64) (by omega),toNat_u8 (0x80+c % 64) (by omega)];rfl
theorem encB_le8 (r:Int):(encB r).length≤4:=by
 unfold encB;rw [encode_if];unfold enc2;simp only
 repeat' split
 all_goals simp
theorem info8:(Tryz.prog.info? 5).map (fun i=>(i.zero,i.size,i.bytes))=some (some (.int .u8 0),1,1):=by kernel_rfl
theorem conv_own {W:World} {B n:Nat} {v:Value} {l:List UInt8} (h:W.ownsRow B 5 1 v n (Lib.byteCells l)):(convert 85 9 v).run Tryz.prog W=.ok (.string ⟨l.toArray⟩) W:=by
 have hlen:l.length=n:=by have:=h.1;rw [Lib.byteCells_length] at this;omega
 rcases h.2 with ⟨rfl,rfl⟩|⟨g,cap,cur,rfl,_,hh,hn,_,hsz,htk⟩
 ·obtain rfl:=List.length_eq_zero_iff.1 hlen;exact run_convert_bytes_nil (P:=Tryz.prog) W 85 5 Tryz.underlying85 Tryz.underlying5 0 0 9 Tryz.underlying9
 ·have:=run_convert_bytes_arg (P:=Tryz.prog) W 85 5 Tryz.underlying85 Tryz.underlying5 g 0 n cap (l.map fun b=>(b.toNat:Int)) (by simpa using hlen) (fun j hj=>by
   have e1:cur.toList[j]?=(Lib.byteCells l)[j]?:=by
    rw [← htk,List.getElem?_take,if_pos (by omega)]
   rw [Nat.zero_add]
   simp only [World.cell?,hh]
   simp only [Array.getElem?_toList] at e1
   rw [e1]
   simp [Lib.byteCells,List.getElem?_eq_getElem (show j<l.length by omega),List.getD_eq_getElem?_getD]) 9 Tryz.underlying9
  rw [this];have e:strOfNums (l.map fun b=>(b.toNat:Int))=⟨l.toArray⟩:=by
   unfold strOfNums;simp [Function.comp_def]
  rw [e]
theorem cell_new8 (w:World) (x:Value) (t:TypeId):∀ j u,[x][j]?=some u→(w.alloc (.cells #[x] t)).cell? ((⟨w.heap.size,0,none⟩:Addr).add j)=some u:=cell_newI w x t
theorem byteCells_append (a b:List UInt8):Lib.byteCells (a++b)=Lib.byteCells a++Lib.byteCells b:=by simp [Lib.byteCells]
theorem take_snoc8 (l:List UInt8) (i:Nat) (hi:i<l.length):Lib.byteCells (l.take i)++[Value.int .u8 (l.getD i 0).toNat]=Lib.byteCells (l.take (i+1)):=by
 rw [List.take_succ_eq_append_getElem hi,byteCells_append];simp only [List.getD_eq_getElem?_getD,List.getElem?_eq_getElem hi];rfl
end Go.Proofs.YtijpfbcippijoaaGreatDoor
