import Derived.Test.YtijpfbcippijoaaGreatDoorGr34
import Derived.Lib.RuneBytes
import Derived.Lib.FrozenHead2
import Derived.Lib.OthersKept
namespace Go.Proofs.YtijpfbcippijoaaGreatDoor
open Go.RowKit Go.Lib
set_option maxRecDepth 100000
theorem infoB : (Tryz.prog.info? 5).map (fun i=>(i.zero,i.size,i.bytes)) = some (some (.int .u8 0),1,1):=by kernel_rfl
def encV (r : Int) : List Value:=(encB r).map fun b=>Value.int .u8 b.toNat
theorem u8_of (n : Nat) (x : Int) (h : (n : Int) = x) (hn : n < 256) : Value.int .u8 (UInt8.ofNat n).toNat = Value.int .u8 x:=by rw [ofNat_toNat n hn,h]
theorem encV1 {r : Int} (h0 : 0≤r) (h1 : r≤127) : encV r = [.int .u8 r]:=by
  obtain ⟨c,rfl⟩:=Int.eq_ofNat_of_zero_le h0
  unfold encV
  rw [encB1 c (by omega)]
  simp only [List.map_cons,List.map_nil]
  rw [u8_of _ _ rfl (by omega)]
theorem encV2 {r : Int} (h0 : 128≤r) (h1 : r≤2047) : encV r = [.int .u8 (192 + r / 64),.int .u8 (128 + r % 64)]:=by
  obtain ⟨c,rfl⟩:=Int.eq_ofNat_of_zero_le (show 0≤r by omega)
  unfold encV
  rw [encB2 c (by omega) (by omega)]
  simp only [List.map_cons,List.map_nil]
  rw [u8_of _ (192 + (c : Int) / 64) (by omega) (by omega),u8_of _ (128 + (c : Int) % 64) (by omega) (by omega)]
theorem encV3 {r : Int} (h0 : 2048≤r) (h1 : r≤65535) (hv : Utf8.valid r = true) : encV r = [.int .u8 (224 + r / 4096),.int .u8 (128 + r / 64 % 64),.int .u8 (128 + r % 64)]:=by
  obtain ⟨c,rfl⟩:=Int.eq_ofNat_of_zero_le (show 0≤r by omega)
  unfold encV
  rw [encB3 c (by omega) (by omega) hv]
  simp only [List.map_cons,List.map_nil]
  rw [u8_of _ (224 + (c : Int) / 4096) (by omega) (by omega),u8_of _ (128 + (c : Int) / 64 % 64) (by omega) (by omega),u8_of _ (128 + (c : Int) % 64) (by omega) (by omega)]
theorem encV4 {r : Int} (h0 : 65536≤r) (hv : Utf8.valid r = true) : encV r = [.int .u8 (240 + r / 262144),.int .u8 (128 + r / 4096 % 64),.int .u8 (128 + r / 64 % 64),.int .u8 (128 + r % 64)]:=by
  have hle:=(valid_le hv).2.1
  obtain ⟨c,rfl⟩:=Int.eq_ofNat_of_zero_le (show 0≤r by omega)
  unfold encV
  rw [encB4 c (by omega) hv]
  simp only [List.map_cons,List.map_nil]
  rw [u8_of _ (240 + (c : Int) / 262144) (by omega) (by omega),u8_of _ (128 + (c : Int) / 4096 % 64) (by omega) (by omega),u8_of _ (128 + (c : Int) / 64 % 64) (by omega) (by omega),u8_of _ (128 + (c : Int) % 64) (by omega) (by omega)]
set_option maxHeartbeats 4000000 in
theorem beyond_two (B : Nat) (v : Value) (n : Nat) (xs : List Value) (r : Int) (h0 : 128≤r) (h1 : r≤2047) (w : World) (hown : w.ownsRowF B 5 1 v n xs) (hlen : n + 4≤140737488355328) (hBw : B≤w.heap.size) :
    Calls Tryz.prog 127 #[v,.int .i32 r] w fun e w'=>∃ v',e = .returned v'∧w'.ownsRowF B 5 1 v' (n + 2) (xs ++ [.int .u8 (192 + r / 64),.int .u8 (128 + r % 64)])∧∃ o,(w.alloc o).grownBy w' v.ownBlock:=by
  obtain ⟨i0,hi,hz0,hz1,hz2⟩:=info_parts infoB
  go_enter Tryz.func127,Tryz.ntmps127
  go_wp2_with (at_builtin; refine wpList_append_ownF _ rfl _ _ 85 rfl B 5 i0 (.int .u8 0) 1 1 Tryz.underlying85 hi hz0 hz1 hz2 rfl (by decide) _ _ _ rfl (hown.alloc _) ⟨w.heap.size,0,none⟩ 2 2 [.int .u8 (192 + r / 64),.int .u8 (128 + r % 64)] rfl rfl ?c1 ?c2 ?c3 ?c4 ?c5 ?_)
  case c1 =>
    intro j u hj
    have hjk : j < 2:=(List.getElem?_eq_some_iff.1 hj).1
    by_cases e0 : j = 0
    · subst e0; simp at hj; subst hj; simp [Addr.add]
    by_cases e1 : j = 1
    · subst e1; simp at hj; subst hj; simp [Addr.add]
    omega
  case c2=>intro u hu; simp at hu; rcases hu with rfl | rfl <;> rfl
  case c3=>unfold maxLen; omega
  case c4=>omega
  case c5=>simp; omega
  intro v' w2 hown' hgrow _
  go_wp2
  go_ret
  exact ⟨_,rfl,hown',_,hgrow⟩
set_option maxHeartbeats 4000000 in
theorem beyond_lo (B : Nat) (v : Value) (n : Nat) (xs : List Value) (r : Int) (h0 : 2048≤r) (h1 : r < 55296) (w : World) (hown : w.ownsRowF B 5 1 v n xs) (hlen : n + 4≤140737488355328) (hBw : B≤w.heap.size) :
    Calls Tryz.prog 127 #[v,.int .i32 r] w fun e w'=>∃ v',e = .returned v'∧w'.ownsRowF B 5 1 v' (n + 3) (xs ++ [.int .u8 (224 + r / 4096),.int .u8 (128 + r / 64 % 64),.int .u8 (128 + r % 64)])∧∃ o,(w.alloc o).grownBy w' v.ownBlock:=by
  obtain ⟨i0,hi,hz0,hz1,hz2⟩:=info_parts infoB
  go_enter Tryz.func127,Tryz.ntmps127
  go_wp2_with (at_builtin; refine wpList_append_ownF _ rfl _ _ 85 rfl B 5 i0 (.int .u8 0) 1 1 Tryz.underlying85 hi hz0 hz1 hz2 rfl (by decide) _ _ _ rfl (hown.alloc _) ⟨w.heap.size,0,none⟩ 3 3 [.int .u8 (224 + r / 4096),.int .u8 (128 + r / 64 % 64),.int .u8 (128 + r % 64)] rfl rfl ?c1 ?c2 ?c3 ?c4 ?c5 ?_)
  case c1 =>
    intro j u hj
    have hjk : j < 3:=(List.getElem?_eq_some_iff.1 hj).1
    by_cases e0 : j = 0
    · subst e0; simp at hj; subst hj; simp [Addr.add]
    by_cases e1 : j = 1
    · subst e1; simp at hj; subst hj; simp [Addr.add]
    by_cases e2 : j = 2
    · subst e2; simp at hj; subst hj; simp [Addr.add]
    omega
  case c2=>intro u hu; simp at hu; rcases hu with rfl | rfl | rfl <;> rfl
  case c3=>unfold maxLen; omega
  case c4=>omega
  case c5=>simp; omega
  intro v' w2 hown' hgrow _
  go_wp2
  go_ret
  exact ⟨_,rfl,hown',_,hgrow⟩
set_option maxHeartbeats 4000000 in
theorem beyond_hi (B : Nat) (v : Value) (n : Nat) (xs : List Value) (r : Int) (h0 : 57343 < r) (h1 : r≤65535) (w : World) (hown : w.ownsRowF B 5 1 v n xs) (hlen : n + 4≤140737488355328) (hBw : B≤w.heap.size) :
    Calls Tryz.prog 127 #[v,.int .i32 r] w fun e w'=>∃ v',e = .returned v'∧w'.ownsRowF B 5 1 v' (n + 3) (xs ++ [.int .u8 (224 + r / 4096),.int .u8 (128 + r / 64 % 64),.int .u8 (128 + r % 64)])∧∃ o,(w.alloc o).grownBy w' v.ownBlock:=by
  obtain ⟨i0,hi,hz0,hz1,hz2⟩:=info_parts infoB
  go_enter Tryz.func127,Tryz.ntmps127
  go_wp2_with (at_builtin; refine wpList_append_ownF _ rfl _ _ 85 rfl B 5 i0 (.int .u8 0) 1 1 Tryz.underlying85 hi hz0 hz1 hz2 rfl (by decide) _ _ _ rfl (hown.alloc _) ⟨w.heap.size,0,none⟩ 3 3 [.int .u8 (224 + r / 4096),.int .u8 (128 + r / 64 % 64),.int .u8 (128 + r % 64)] rfl rfl ?c1 ?c2 ?c3 ?c4 ?c5 ?_)
  case c1 =>
    intro j u hj
    have hjk : j < 3:=(List.getElem?_eq_some_iff.1 hj).1
    by_cases e0 : j = 0
    · subst e0; simp at hj; subst hj; simp [Addr.add]
    by_cases e1 : j = 1
    · subst e1; simp at hj; subst hj; simp [Addr.add]
    by_cases e2 : j = 2
    · subst e2; simp at hj; subst hj; simp [Addr.add]
    omega
  case c2=>intro u hu; simp at hu; rcases hu with rfl | rfl | rfl <;> rfl
  case c3=>unfold maxLen; omega
  case c4=>omega
  case c5=>simp; omega
  intro v' w2 hown' hgrow _
  go_wp2
  go_ret
  exact ⟨_,rfl,hown',_,hgrow⟩
set_option maxHeartbeats 4000000 in
theorem beyond_four (B : Nat) (v : Value) (n : Nat) (xs : List Value) (r : Int) (h0 : 65536≤r) (h1 : r≤1114111) (w : World) (hown : w.ownsRowF B 5 1 v n xs) (hlen : n + 4≤140737488355328) (hBw : B≤w.heap.size) :
    Calls Tryz.prog 127 #[v,.int .i32 r] w fun e w'=>∃ v',e = .returned v'∧w'.ownsRowF B 5 1 v' (n + 4) (xs ++ [.int .u8 (240 + r / 262144),.int .u8 (128 + r / 4096 % 64),.int .u8 (128 + r / 64 % 64),.int .u8 (128 + r % 64)])∧∃ o,(w.alloc o).grownBy w' v.ownBlock:=by
  obtain ⟨i0,hi,hz0,hz1,hz2⟩:=info_parts infoB
  go_enter Tryz.func127,Tryz.ntmps127
  go_wp2_with (at_builtin; refine wpList_append_ownF _ rfl _ _ 85 rfl B 5 i0 (.int .u8 0) 1 1 Tryz.underlying85 hi hz0 hz1 hz2 rfl (by decide) _ _ _ rfl (hown.alloc _) ⟨w.heap.size,0,none⟩ 4 4 [.int .u8 (240 + r / 262144),.int .u8 (128 + r / 4096 % 64),.int .u8 (128 + r / 64 % 64),.int .u8 (128 + r % 64)] rfl rfl ?c1 ?c2 ?c3 ?c4 ?c5 ?_)
  case c1 =>
    intro j u hj
    have hjk : j < 4:=(List.getElem?_eq_some_iff.1 hj).1
    by_cases e0 : j = 0
    · subst e0; simp at hj; subst hj; simp [Addr.add]
    by_cases e1 : j = 1
    · subst e1; simp at hj; subst hj; simp [Addr.add]
    by_cases e2 : j = 2
    · subst e2; simp at hj; subst hj; simp [Addr.add]
    by_cases e3 : j = 3
    · subst e3; simp at hj; subst hj; simp [Addr.add]
    omega
  case c2=>intro u hu; simp at hu; rcases hu with rfl | rfl | rfl | rfl <;> rfl
  case c3=>unfold maxLen; omega
  case c4=>omega
  case c5=>simp; omega
  intro v' w2 hown' hgrow _
  go_wp2
  go_ret
  exact ⟨_,rfl,hown',_,hgrow⟩
set_option maxHeartbeats 4000000 in
theorem low_one (B : Nat) (v : Value) (n : Nat) (xs : List Value) (r : Int) (h0 : 0≤r) (h1 : r≤127) (w : World) (hown : w.ownsRowF B 5 1 v n xs) (hlen : n + 4≤140737488355328) (hBw : B≤w.heap.size) :
    Calls Tryz.prog 101 #[v,.int .i32 r] w fun e w'=>∃ v',e = .returned v'∧w'.ownsRowF B 5 1 v' (n + 1) (xs ++ [.int .u8 (r)])∧∃ o,(w.alloc o).grownBy w' v.ownBlock:=by
  obtain ⟨i0,hi,hz0,hz1,hz2⟩:=info_parts infoB
  go_enter Tryz.func101,Tryz.ntmps101
  go_wp2_with (at_builtin; refine wpList_append_ownF _ rfl _ _ 85 rfl B 5 i0 (.int .u8 0) 1 1 Tryz.underlying85 hi hz0 hz1 hz2 rfl (by decide) _ _ _ rfl (hown.alloc _) ⟨w.heap.size,0,none⟩ 1 1 [.int .u8 (r)] rfl rfl ?c1 ?c2 ?c3 ?c4 ?c5 ?_)
  case c1 =>
    intro j u hj
    have hjk : j < 1:=(List.getElem?_eq_some_iff.1 hj).1
    by_cases e0 : j = 0
    · subst e0; simp at hj; subst hj; simp [Addr.add]
    omega
  case c2=>intro u hu; simp at hu; subst hu; rfl
  case c3=>unfold maxLen; omega
  case c4=>omega
  case c5=>simp; omega
  intro v' w2 hown' hgrow _
  go_wp2
  go_ret
  exact ⟨_,rfl,hown',_,hgrow⟩
theorem beyond_any (B : Nat) (v : Value) (n : Nat) (xs : List Value) (r : Int) (hv : Utf8.valid r = true) (h0 : 128≤r) (w : World) (hown : w.ownsRowF B 5 1 v n xs) (hlen : n + 4≤140737488355328) (hBw : B≤w.heap.size) :
    Calls Tryz.prog 127 #[v,.int .i32 r] w fun e w'=>∃ v',e = .returned v'∧w'.ownsRowF B 5 1 v' (n + (encV r).length) (xs ++ encV r)∧∃ o,(w.alloc o).grownBy w' v.ownBlock:=by
  obtain ⟨_,hle,hsur⟩:=valid_le hv
  by_cases a : r≤2047
  · rw [encV2 h0 a]; exact beyond_two B v n xs r h0 a w hown hlen hBw
  by_cases b : r≤65535
  · rw [encV3 (by omega) b hv]
    by_cases c : r < 55296
    · exact beyond_lo B v n xs r (by omega) c w hown hlen hBw
    · exact beyond_hi B v n xs r (by omega) b w hown hlen hBw
  · rw [encV4 (by omega) hv]; exact beyond_four B v n xs r (by omega) hle w hown hlen hBw
set_option maxHeartbeats 1000000 in
theorem appendRune_any (B : Nat) (v : Value) (n : Nat) (xs : List Value) (r : Int) (hv : Utf8.valid r = true) (w : World) (hown : w.ownsRowF B 5 1 v n xs) (hlen : n + 4≤140737488355328) (hBw : B≤w.heap.size) :
    Calls Tryz.prog 101 #[v,.int .i32 r] w fun e w'=>∃ v',e = .returned v'∧w'.ownsRowF B 5 1 v' (n + (encV r).length) (xs ++ encV r)∧∃ o,(w.alloc o).grownBy w' v.ownBlock:=by
  obtain ⟨h0,hle,hsur⟩:=valid_le hv
  by_cases a : r≤127
  · rw [encV1 h0 a]; exact low_one B v n xs r h0 a w hown hlen hBw
  have HB:=beyond_any B v n xs r hv (by omega) w hown hlen hBw
  generalize encV r = E at *
  clear hv hsur
  go_enter Tryz.func101,Tryz.ntmps101
  go_wp2_with fail
  refine HB.mono ?_
  rintro e w1 ⟨v',rfl,h1,h2⟩
  go_wp2
  go_ret
  exact ⟨_,rfl,h1,h2⟩
end Go.Proofs.YtijpfbcippijoaaGreatDoor

namespace Go.Proofs.YtijpfbcippijoaaGreatDoor
open Go.RowKit Go.Lib
theorem sizeB : (Tryz.prog.info? 87).map (·.size) = some 2:=by kernel_rfl
theorem liesB : liesAt Tryz.prog Tryz.prog.depth 87 (2 / Tryz.prog.cellsOf 87) 0 87 1 = true:=by kernel_rfl
set_option maxHeartbeats 1000000 in
set_option maxRecDepth 100000 in
theorem copyCheck_fresh (b : Nat) (w : World) (h0 : w.cell? ⟨b,0,none⟩ = some (.pointer none)) (hsh : w.shape? b = some (87,2)) (hfz : w.frozen? ⟨b,0,none⟩ = false) :
    Calls Tryz.prog 100 #[.pointer (some ⟨b,0,none⟩)] w fun e w'=>e = .returned (.tuple #[])∧w' = w.setCell ⟨b,0,none⟩ (.pointer (some ⟨b,0,none⟩)):=by
  obtain ⟨j,hj,hjs⟩:=Option.map_eq_some_iff.1 sizeB
  go_enter Tryz.func100,Tryz.ntmps100
  go_wp2
  rw [Lib.run_to_unsafe w ⟨b,0,none⟩ Tryz.underlying84 Tryz.underlying173 hj (by rw [hjs]; decide) hsh (Nat.zero_lt_succ 1)]
  simp only [Result.andThen]
  rw [Oper.upon_value]
  go_wp2
  rw [run_callFunc_extern Tryz.func126 (by kernel_rfl) (by kernel_rfl) (by kernel_rfl) (e:=Extern.AbiNoEscape.same) (by kernel_rfl)]
  rw [Lib.run_noEscape]
  simp only [Result.andThen]
  rw [Oper.upon_value]
  go_wp2
  rw [Lib.run_from_unsafe w ⟨b,0,none⟩ Tryz.underlying173 Tryz.underlying84 hj hsh liesB]
  simp only [Result.andThen]
  rw [Oper.upon_value]
  go_wp2
  go_end0
  exact ⟨rfl,rfl⟩
set_option maxHeartbeats 1000000 in
set_option maxRecDepth 100000 in
theorem copyCheck_used (b : Nat) (w : World) (h0 : w.cell? ⟨b,0,none⟩ = some (.pointer (some ⟨b,0,none⟩))) :
    Calls Tryz.prog 100 #[.pointer (some ⟨b,0,none⟩)] w fun e w'=>e = .returned (.tuple #[])∧w' = w:=by
  obtain ⟨j,hj,_⟩:=Option.map_eq_some_iff.1 sizeB
  go_enter Tryz.func100,Tryz.ntmps100
  go_wp2
  rw [Lib.run_neq_ptr_same w _ Tryz.underlying84 hj]
  go_wp2
  go_end0
  exact ⟨rfl,rfl⟩
theorem copyCheck_any (B b : Nat) (bs : List Value) (w : World) (h : Lib.IsBuilderF 87 5 B b bs w) :
    Calls Tryz.prog 100 #[.pointer (some ⟨b,0,none⟩)] w fun e w'=>e = .returned (.tuple #[])∧(Lib.BuilderAtF 87 5 B b (.pointer (some ⟨b,0,none⟩)) bs w'∧Below B w w'∧Lib.OthersKept 5 (some b) w w'):=by
  rcases h with h | h
  · refine (copyCheck_fresh b w h.cell0 h.shape h.frozen0).mono ?_
    rintro e w' ⟨rfl,rfl⟩
    exact ⟨rfl,h.used _,(Below.refl B w).setCell (p:=⟨b,0,none⟩) h.1 _,(Lib.OthersKept.refl _ _ w).setCell ⟨b,0,none⟩ rfl _⟩
  · refine (copyCheck_used b w h.cell0).mono ?_
    rintro e w' ⟨rfl,rfl⟩
    exact ⟨rfl,h,Below.refl B _,Lib.OthersKept.refl _ _ _⟩
set_option maxHeartbeats 1000000 in
theorem writeRune_any (B b : Nat) (bs : List Value) (r : Int) (hv : Utf8.valid r = true) (w : World) (h : Lib.IsBuilderF 87 5 B b bs w) (hlen : bs.length + 4≤140737488355328) (hBw : B≤w.heap.size) :
    Calls Tryz.prog 70 #[.pointer (some ⟨b,0,none⟩),.int .i32 r] w fun e w'=>(∃ v,e = .returned v)∧(Lib.BuilderAtF 87 5 B b (.pointer (some ⟨b,0,none⟩)) (bs ++ encV r) w'∧Below B w w'∧Lib.OthersKept 5 (some b) w w'):=by
  go_enter Tryz.func70,Tryz.ntmps70
  go_wp2_with fail
  refine (copyCheck_any B b bs _ h).mono ?_
  rintro e w1 ⟨rfl,h1,hb1,hk1⟩
  obtain ⟨hB,v,hbk,hown,hne⟩:=h1
  have c0 : w1.cell? ⟨b,0,none⟩ = some (.pointer (some ⟨b,0,none⟩)):=by rw [Lib.cell_of_heap hbk]; rfl
  have c1 : w1.cell? ⟨b,1,none⟩ = some v:=by rw [Lib.cell_of_heap hbk]; rfl
  have hs1:=hb1.size
  obtain ⟨a0,n0,cap0,e0⟩ : ∃ ao n' cap,v = .slice ao n' cap:=by
    rcases hown.2 with ⟨hv,_⟩ | ⟨g,cap,cur,fz,hv,_⟩
    · exact ⟨_,_,_,hv⟩
    · exact ⟨_,_,_,hv⟩
  have hn0 : n0≤140737488355328:=by
    rcases hown.2 with ⟨hv,_⟩ | ⟨g,cap,cur,fz,hv,_⟩
    · rw [e0] at hv; cases hv; omega
    · rw [e0] at hv; cases hv; omega
  have HA:=appendRune_any B v bs.length bs r hv w1 hown hlen (by omega)
  subst e0
  clear hv h
  go_wp2_with fail
  refine HA.mono ?_
  rintro e w2 ⟨v',rfl,hown',o,hgrow⟩
  have hlt : b < w1.heap.size:=(Array.getElem?_eq_some_iff.1 hbk).1
  have hb2 : w2.heap[b]? = some (.cells #[.pointer (some ⟨b,0,none⟩),.slice a0 n0 cap0] 87 (0,0)):=by
    rw [hgrow.block b (by simp [World.size_alloc]; omega) (fun e=>hne e.symm),Lib.alloc_old w1 _ b hlt]
    exact hbk
  have d0 : w2.cell? ⟨b,0,none⟩ = some (.pointer (some ⟨b,0,none⟩)):=by rw [Lib.cell_of_heap hb2]; rfl
  have d1 : w2.cell? ⟨b,1,none⟩ = some (.slice a0 n0 cap0):=by rw [Lib.cell_of_heap hb2]; rfl
  have f1 : w2.frozen? ⟨b,1,none⟩ = false:=Lib.frozen_of_heap hb2 1
  obtain ⟨ao,n',cap,rfl⟩ : ∃ ao n' cap,v' = .slice ao n' cap:=by
    rcases hown'.2 with ⟨hv,_⟩ | ⟨g,cap,cur,fz,hv,_⟩
    · exact ⟨_,_,_,hv⟩
    · exact ⟨_,_,_,hv⟩
  go_wp2
  go_ret2
  refine ⟨⟨_,rfl⟩,?_,?_,((hk1.alloc _).grown hgrow (Lib.ownsRowF_kind (hown.alloc _))).setCell ⟨b,1,none⟩ rfl _⟩
  · exact Lib.BuilderAtF.put (T:=87) (e:=5) hB hb2 (bs':=bs ++ encV r) (by simpa using hown') (by decide)
  · exact ((hb1.alloc (by omega) _).grown hgrow (by simp [World.size_alloc]; omega) (fun k hk=>(hown.lt k hk).1)).setCell (p:=⟨b,1,none⟩) hB _
end Go.Proofs.YtijpfbcippijoaaGreatDoor

namespace Go.Proofs.YtijpfbcippijoaaGreatDoor
open Go.RowKit Go.Lib Go.Shelf
set_option maxRecDepth 100000
theorem isBuilderF_block {B b : Nat} {bs : List Value} {w : World} (h : Lib.IsBuilderF 87 5 B b bs w) : ∃ cs fz,w.heap[b]? = some (.cells cs 87 fz):=by
  rcases h with ⟨_,v,h,_⟩ | ⟨_,v,h,_⟩
  · exact ⟨_,_,h⟩
  · exact ⟨_,_,h⟩
theorem KpT.others {w w' : World} {b : Nat} (h : Lib.OthersKept 5 (some b) w w') (hb : ∃ cs fz,w.heap[b]? = some (.cells cs 87 fz)) (hs : w.heap.size≤w'.heap.size) : KpT w w':=by
  obtain ⟨cb,fb,hb⟩:=hb
  refine ⟨hs,fun k cs fr hk=>?_,fun k cs fr hk=>?_⟩
  · rw [hk]
    exact h k _ hk (fun e=>by cases e; rw [hb] at hk; simp at hk) (fun c fz e=>by simp at e)
  · rw [hk]
    exact h k _ hk (fun e=>by cases e; rw [hb] at hk; simp at hk) (fun c fz e=>by simp at e)
def encVs (rs : List Int) : List Value:=rs.flatMap encV
theorem encVs_append (l k : List Int) : encVs (l ++ k) = encVs l ++ encVs k:=by simp [encVs]
theorem encVs_take (rs : List Int) (j : Nat) (hj : j < rs.length) : encVs (rs.take (j + 1)) = encVs (rs.take j) ++ encV rs[j]:=by
  rw [List.take_succ_eq_append_getElem hj,encVs_append]
  simp [encVs]
theorem encV_len {r : Int} (hv : Utf8.valid r = true) : (encV r).length≤4:=by
  obtain ⟨h0,hle,hsur⟩:=valid_le hv
  by_cases a : r≤127
  · rw [encV1 h0 a]; simp
  by_cases b : r≤2047
  · rw [encV2 (by omega) b]; simp
  by_cases c : r≤65535
  · rw [encV3 (by omega) c hv]; simp
  · rw [encV4 (by omega) hv]; simp
theorem encVs_len : ∀ {rs : List Int},(∀ r ∈ rs,Utf8.valid r = true)→(encVs rs).length≤4 * rs.length
  | [],_=>by simp [encVs]
  | r :: rs,h=>by
    have h1:=encV_len (h r (by simp))
    have h2:=encVs_len (rs:=rs) (fun x hx=>h x (by simp [hx]))
    have e : encVs (r :: rs) = encV r ++ encVs rs:=by simp [encVs]
    rw [e,List.length_append,List.length_cons]
    omega
set_option maxHeartbeats 2000000 in
theorem write_any {w : World} {B b g : Nat} {bs : List Value} {rs : List Int} {hid st : Int} (hA : At w (.leaf rs hid st) g) (hr : ∀ r ∈ rs,Utf8.valid r = true) (hl : rs.length≤32) (h : Lib.IsBuilderF 87 5 B b bs w) (hlen : bs.length + 200≤140737488355328) (hBw : B≤w.heap.size) :
    Calls Tryz.prog 33 #[.pointer (some ⟨g,0,none⟩),.pointer (some ⟨b,0,none⟩)] w fun e w'=>(∃ v,e = .returned v)∧(Lib.IsBuilderF 87 5 B b (bs ++ encVs rs) w'∧Below B w w'∧Lib.OthersKept 5 (some b) w w'):=by
  have HBK:=isBuilderF_block h
  obtain ⟨a,cap,hN,hrw⟩:=hA
  have c10:=hN.four.1
  have hcap:=hrw.rw_.2.1
  have H0 : Hid (Lib.IsBuilderF 87 5 B b bs w):=h
  have HR : Hid (∀ r ∈ rs,Utf8.valid r = true):=hr
  have HRW : Hid (RwN w a rs.length cap rs):=hrw
  clear hN h hr hrw
  go_enter Tryz.func33,Tryz.ntmps33
  go_wp2_with fail
  go_loopw [11] (fun vi wr=>∃ j : Nat,j≤rs.length∧vi = .int .i64 (j : Int)∧Lib.IsBuilderF 87 5 B b (bs ++ encVs (rs.take j)) wr∧Below B w wr∧Lib.OthersKept 5 (some b) w wr) (fun vi _=>rs.length - (intOf vi).toNat)
  case atStart=>exact ⟨0,Nat.zero_le _,rfl,by simpa [encVs] using H0.out,Below.refl _ _,Lib.OthersKept.refl _ _ _⟩
  case round =>
    obtain ⟨j,hj,rfl,hbj,hblj,hoj⟩:=hrel
    have hsz:=hblj.size
    by_cases hlt : j < rs.length
    · have hkp:=KpT.others hoj HBK hblj.size
      have hrw':=HRW.out.keep (fun h0 gr off e=>by obtain ⟨cs,fr,hh⟩:=HRW.out.typ h0 gr off e; exact hkp.rune gr cs fr hh) hblj.size
      obtain ⟨gr,off,x,rfl,hgr,hx,hc⟩:=hrw'.rw_.at j hlt
      have hcx : wr.cell? ⟨gr,off + j,none⟩ = some (.int .i32 x):=by simpa using hc 0 (.int .i32 x) rfl
      have hxe : rs[j] = x:=by rw [List.getElem?_eq_getElem hlt] at hx; exact Option.some.inj hx
      have hvx : Utf8.valid x = true:=HR.out x (by rw [← hxe]; exact List.getElem_mem hlt)
      have HW : Hid (Calls Tryz.prog 70 #[.pointer (some ⟨b,0,none⟩),.int .i32 x] wr fun e w'=>(∃ v,e = .returned v)∧(Lib.BuilderAtF 87 5 B b (.pointer (some ⟨b,0,none⟩)) (bs ++ encVs (rs.take j) ++ encV x) w'∧Below B wr w'∧Lib.OthersKept 5 (some b) wr w')) :=
        writeRune_any B b _ x hvx wr hbj (by
          have:=encVs_len (rs:=rs.take j) (fun r hr=>HR.out r (List.mem_of_mem_take hr))
          rw [List.length_append]
          rw [List.length_take] at this
          omega) (by omega)
      have HE : Hid (bs ++ encVs (rs.take j) ++ encV x = bs ++ encVs (rs.take (j + 1))):=by show _ = _; rw [encVs_take rs j hlt,hxe,List.append_assoc]
      clear hrw' hc hbj hvx hxe hx
      go_wp2_with fail
      refine HW.out.mono ?_
      rintro e w2 ⟨⟨v,rfl⟩,h2,hb2,ho2⟩
      rw [HE.out] at h2
      go_wp2
      refine ⟨⟨j + 1,by omega,by go_num,.inr h2,hblj.trans hb2,hoj.trans ho2⟩,by simp [intOf]; omega⟩
    · obtain rfl : j = rs.length:=by omega
      rw [List.take_length] at hbj
      go_wp2_with fail
      go_end0
      exact ⟨⟨_,rfl⟩,hbj,hblj,hoj⟩
end Go.Proofs.YtijpfbcippijoaaGreatDoor
