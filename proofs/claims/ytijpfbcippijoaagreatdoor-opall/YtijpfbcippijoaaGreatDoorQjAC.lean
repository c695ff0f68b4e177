import Derived.Test.YtijpfbcippijoaaGreatDoorGr38
import Derived.Test.YtijpfbcippijoaaGreatDoorQcAB
import Derived.Test.YtijpfbcippijoaaGreatDoorGr41
import Derived.Test.YtijpfbcippijoaaGreatDoorGr37
import Derived.Deep.Cut
namespace Go.Proofs.YtijpfbcippijoaaGreatDoor
open Go.RowKit Go.Lib
set_option maxRecDepth 100000
set_option maxHeartbeats 4000000 in
theorem gApply_no {o : OpV} {w : World} {aR : Option Addr} {nR cR : Nat} {a : Option Addr} {m cap : Nat} (hl : Sp.Rng w a m cap o.l) (hs : o.s.size≤2097152) {C : Int} (hC : opCheck o (nR : Int) = C) (hC0 : C ≠ 0) :
    Calls Tryz.prog 12 #[.slice aR nR cR,opVal o (.slice a m cap)] w fun e w'=>e = .returned (.tuple #[.slice aR nR cR,.int .i64 C])∧Below w.heap.size w w':=by
  obtain ⟨c,n,k,p,s,l,tc,tn,on⟩:=o
  simp only [opVal] at *
  have HC : Hid (∀ W,Below w.heap.size w W→Calls Tryz.prog 27 #[.agg #[.int .i64 c,.int .i64 n,.int .i64 k,.int .i64 p,.string s,.slice a m cap,.int .i64 tc,.int .i64 tn,.bool on],.int .i64 (nR : Int)] W fun e w'=>e = .returned (.int .i64 C)∧Below W.heap.size W w'):=fun W hb=>by
    have:=gCheck_any (o:=⟨c,n,k,p,s,l,tc,tn,on⟩) (total:=(nR : Int)) (hl.below hb) hs
    rw [hC] at this
    exact this
  clear hC hl
  have t1 : (C == 0) = false:=beq_eq_false_iff_ne.2 hC0
  have t2 : (C != 0) = true:=by simp [hC0]
  go_enter Tryz.func12,Tryz.ntmps12
  go_wp2_with fail
  have hB0 : Below w.heap.size w (w.alloc (Obj.cells #[.int .i64 c,.int .i64 n,.int .i64 k,.int .i64 p,.string s,.slice a m cap,.int .i64 tc,.int .i64 tn,.bool on] 44)):=(Below.refl w.heap.size w).alloc (Nat.le_refl _) _
  refine (HC.out _ hB0).mono ?_
  rintro e w1 ⟨rfl,hb1⟩
  have hX1 : w1.heap[w.heap.size]? = some (Obj.cells #[.int .i64 c,.int .i64 n,.int .i64 k,.int .i64 p,.string s,.slice a m cap,.int .i64 tc,.int .i64 tn,.bool on] 44):=(hb1.block _ (by simp)).trans (alloc_last _ _ _ rfl)
  obtain ⟨d0,d1,d2,d3,d4,d5,d6,d7,d8⟩:=box9 hX1
  have hB:=hB0.trans (hb1.mono hB0.size)
  clear hX1 hB0 hb1 HC
  go_wp2_with fail
  refine bodyPost_ret (results_tmp2 rfl _ _ _) rfl ?_
  exact ⟨rfl,hB⟩
set_option maxHeartbeats 4000000 in
theorem gApply_status {c n p : Int} {s : ByteArray} {l : List (Int × Int)} {tc tn : Int} {on : Bool} {w : World} {aR : Option Addr} {nR cR : Nat} {a : Option Addr} {m cap : Nat} (hl : Sp.Rng w a m cap l) (hs : s.size≤2097152) (hC : opCheck ⟨c,n,4,p,s,l,tc,tn,on⟩ (nR : Int) = 0) :
    Calls Tryz.prog 12 #[.slice aR nR cR,opVal ⟨c,n,4,p,s,l,tc,tn,on⟩ (.slice a m cap)] w fun e w'=>e = .returned (.tuple #[.slice aR nR cR,.int .i64 40])∧Below w.heap.size w w':=by
  simp only [opVal] at *
  have HC : Hid (∀ W,Below w.heap.size w W→Calls Tryz.prog 27 #[.agg #[.int .i64 c,.int .i64 n,.int .i64 4,.int .i64 p,.string s,.slice a m cap,.int .i64 tc,.int .i64 tn,.bool on],.int .i64 (nR : Int)] W fun e w'=>e = .returned (.int .i64 0)∧Below W.heap.size W w'):=fun W hb=>by
    have:=gCheck_any (o:=⟨c,n,4,p,s,l,tc,tn,on⟩) (total:=(nR : Int)) (hl.below hb) hs
    rw [hC] at this
    exact this
  clear hC hl
  go_enter Tryz.func12,Tryz.ntmps12
  go_wp2_with fail
  have hB0 : Below w.heap.size w (w.alloc (Obj.cells #[.int .i64 c,.int .i64 n,.int .i64 4,.int .i64 p,.string s,.slice a m cap,.int .i64 tc,.int .i64 tn,.bool on] 44)):=(Below.refl w.heap.size w).alloc (Nat.le_refl _) _
  refine (HC.out _ hB0).mono ?_
  rintro e w1 ⟨rfl,hb1⟩
  have hX1 : w1.heap[w.heap.size]? = some (Obj.cells #[.int .i64 c,.int .i64 n,.int .i64 4,.int .i64 p,.string s,.slice a m cap,.int .i64 tc,.int .i64 tn,.bool on] 44):=(hb1.block _ (by simp)).trans (alloc_last _ _ _ rfl)
  obtain ⟨d0,d1,d2,d3,d4,d5,d6,d7,d8⟩:=box9 hX1
  have hB:=hB0.trans (hb1.mono hB0.size)
  clear hX1 hB0 hb1 HC
  go_wp2_with fail
  refine bodyPost_ret (results_tmp2 rfl _ _ _) rfl ?_
  exact ⟨rfl,hB⟩
end Go.Proofs.YtijpfbcippijoaaGreatDoor

namespace Go.Proofs.YtijpfbcippijoaaGreatDoor
open Go.RowKit Go.Lib
set_option maxRecDepth 100000
def GapP (l : List (Int × Int)) (d code : Int) (R : List (Int × Int)) (v0 : Value) (B : Nat) (w' : World) (v : Value) (x : Int) : Prop :=
  (x = 0∧OwnF cellV 2 63 w' B v (bmp l d 0 R)∧∀ c ∈ bmp l d 0 R,0≤c.2∧c.2≤1048576) ∨ (x = code∧v = v0∧∃ c ∈ bmp l d 0 R,¬ (0≤c.2∧c.2≤1048576))
set_option maxHeartbeats 8000000 in
theorem gApply_2 {c n p : Int} {s : ByteArray} {l : List (Int × Int)} {tc tn : Int} {on : Bool} {w : World} {aR : Option Addr} {nR cR : Nat} {R : List (Int × Int)} (hR : Rw cellV 2 w aR nR cR R) {a : Option Addr} {m cap : Nat} (hl : Sp.Rng w a m cap l) (hs : s.size≤2097152) (hsr : Srt l) (hc : ∀ c ∈ R,0≤c.2∧c.2≤1048576) (hnR : nR≤1048576) (hm : m≤1000000000)
    (hC : opCheck ⟨c,n,2,p,s,l,tc,tn,on⟩ (nR : Int) = 0) :
    Calls Tryz.prog 12 #[.slice aR nR cR,opVal ⟨c,n,2,p,s,l,tc,tn,on⟩ (.slice a m cap)] w fun e w'=>∃ v x,e = .returned (.tuple #[v,.int .i64 x])∧GapP l 1 31 R (.slice aR nR cR) w.heap.size w' v x∧Below w.heap.size w w':=by
  simp only [opVal] at *
  have HRL : Hid (R.length = nR):=hR.len
  have HLL : Hid (l.length = m):=hl.len
  have HS : Hid (Srt l):=hsr
  have HCN : Hid (∀ c ∈ R,0≤c.2∧c.2≤1048576):=hc
  have HC : Hid (∀ W,Below w.heap.size w W→Calls Tryz.prog 27 #[.agg #[.int .i64 c,.int .i64 n,.int .i64 2,.int .i64 p,.string s,.slice a m cap,.int .i64 tc,.int .i64 tn,.bool on],.int .i64 (nR : Int)] W fun e w'=>e = .returned (.int .i64 0)∧Below W.heap.size W w'):=fun W hb=>by
    have:=gCheck_any (o:=⟨c,n,2,p,s,l,tc,tn,on⟩) (total:=(nR : Int)) (hl.below hb) hs
    rw [hC] at this
    exact this
  clear hC hsr hc
  go_enter Tryz.func12,Tryz.ntmps12
  go_wp2_with fail
  have hB0 : Below w.heap.size w (w.alloc (Obj.cells #[.int .i64 c,.int .i64 n,.int .i64 2,.int .i64 p,.string s,.slice a m cap,.int .i64 tc,.int .i64 tn,.bool on] 44)):=(Below.refl w.heap.size w).alloc (Nat.le_refl _) _
  refine (HC.out _ hB0).mono ?_
  rintro e w2 ⟨rfl,hb1⟩
  have hX1 : w2.heap[w.heap.size]? = some (Obj.cells #[.int .i64 c,.int .i64 n,.int .i64 2,.int .i64 p,.string s,.slice a m cap,.int .i64 tc,.int .i64 tn,.bool on] 44):=(hb1.block _ (by simp)).trans (alloc_last _ _ _ rfl)
  obtain ⟨d0,d1,d2,d3,d4,d5,d6,d7,d8⟩:=box9 hX1
  have hB2:=hB0.trans (hb1.mono hB0.size)
  have hlt2:=(Array.getElem?_eq_some_iff.1 hX1).1
  clear hB0 hb1 HC
  have HAT : Hid (∀ W,Below w2.heap.size w2 W→W.cell? ⟨w.heap.size,5,none⟩ = some (.slice a m cap)):=fun W hb=>by
    have:=(hb.block _ hlt2).trans hX1
    rw [Lib.cell_of_heap this]
    rfl
  have HR : Hid (Rw cellV 2 w2 aR nR cR R):=hR.below hB2
  have HL : Hid (Rw rngV 2 w2 a m cap l):=rw_of_rng (hl.below hB2)
  have HB2 : Hid (Below w.heap.size w w2):=hB2
  have hs2:=hB2.size
  clear hX1 hB2 hR hl
  go_wp2_with fail
  clear d0 d1 d2 d3 d4 d5 d6 d7 d8
  go_loopw [8,14,15] (fun v va vi W=>∃ i k : Nat,va = .int .i64 (k : Int)∧vi = .int .i64 (i : Int)∧i≤nR∧k≤m∧(∀ (j : Nat) x,j < k→l[j]? = some x→x.2≤(i : Int))∧OwnF cellV 2 63 W w2.heap.size v ((bmp l 1 0 R).take i)∧(∀ c ∈ (bmp l 1 0 R).take i,0≤c.2∧c.2≤1048576)∧Below w2.heap.size w2 W) (fun _ _ vi _=>nR - (RowKit.intOf vi).toNat)
  case atStart=>exact ⟨0,0,rfl,rfl,Nat.zero_le _,Nat.zero_le _,fun j x hj=>absurd hj (Nat.not_lt_zero _),by rw [List.take_zero]; exact ownF_nil _ _,fun c hc=>by simp at hc,Below.refl _ _⟩
  case round =>
    obtain ⟨i,k,rfl,rfl,hin,hkm,hno,ho,hal,hB⟩:=hrel
    have p5:=HAT.out _ hB
    have hBs:=hB.size
    have HAL : Hid (∀ c ∈ (bmp l 1 0 R).take i,0≤c.2∧c.2≤1048576):=hal
    have HNO : Hid (∀ (j : Nat) x,j < k→l[j]? = some x→x.2≤(i : Int)):=hno
    clear hal hno
    by_cases hi : i < nR
    · have b0 : (i : Int) < (nR : Int):=by omega
      obtain ⟨g,off,x,rfl,hg,hx,hcl⟩:=HR.out.at i hi
      have hhb:=HCN.out _ (List.mem_of_getElem? hx)
      obtain ⟨r,h⟩:=x
      simp only at hhb
      have HXR : Hid (R[i]? = some (r,h)):=hx
      have e1 : wr.cell? ⟨g,off + i * 2,none⟩ = some (Value.int .i32 r):=(hB.cell (p:=⟨g,off + i * 2 + 0,none⟩) hg).trans (hcl 0 _ rfl)
      have e2 : wr.cell? ⟨g,off + i * 2 + 1,none⟩ = some (.int .i64 h):=(hB.cell (p:=⟨g,off + i * 2 + 1,none⟩) hg).trans (hcl 1 _ rfl)
      have q5:=fun o=>(World.cell?_alloc_lt wr o ⟨w.heap.size,5,none⟩ (show w.heap.size < wr.heap.size by omega)).trans p5
      clear hcl hx
      go_wp2_with fail
      clear e1 e2
      go_loop [14] (fun va=>∃ k2 : Nat,va = .int .i64 (k2 : Int)∧k2≤m∧∀ (j : Nat) x,j < k2→l[j]? = some x→x.2≤(i : Int)) (fun v=>m - (RowKit.intOf v).toNat)
      case atStart=>exact ⟨k,rfl,hkm,HNO.out⟩
      case round =>
        clear hkm HNO
        obtain ⟨k2,rfl,hk2,hno⟩:=hrel
        have HNO : Hid (∀ (j : Nat) x,j < k2→l[j]? = some x→x.2≤(i : Int)):=hno
        clear hno
        by_cases hkm : k2 < m
        · obtain ⟨gl,ofl,x,rfl,hgl,hlx,hlc⟩:=HL.out.at k2 hkm
          obtain ⟨xlo,xhi⟩:=x
          have f1:=fun o=>(World.cell?_alloc_lt wr o ⟨gl,ofl + k2 * 2,none⟩ (show gl < wr.heap.size by omega)).trans ((hB.cell (p:=⟨gl,ofl + k2 * 2 + 0,none⟩) hgl).trans (hlc 0 _ rfl))
          have f2:=fun o=>(World.cell?_alloc_lt wr o ⟨gl,ofl + k2 * 2 + 1,none⟩ (show gl < wr.heap.size by omega)).trans ((hB.cell (p:=⟨gl,ofl + k2 * 2 + 1,none⟩) hgl).trans (hlc 1 _ rfl))
          have HLX : Hid (l[k2]? = some (xlo,xhi)):=hlx
          have b1 : (k2 : Int) < (m : Int):=by omega
          clear hlc hlx
          by_cases hhi : xhi≤(i : Int)
          · go_wp2_with fail
            go_round
            case rel=>exact ⟨k2 + 1,by go_num,by omega,fun j x hj hx=>by
              by_cases e : j = k2
              · subst e
                rw [HLX.out] at hx
                injection hx with hx
                subst hx
                exact hhi
              · exact HNO.out j x (by omega) hx⟩
            case measure=>simp [RowKit.intOf]; omega
          · have b2 : ¬ xhi≤(i : Int):=hhi
            by_cases hlo : xlo≤(i : Int)
            · have hin2 : inL l (i : Int) = true:=inL_yes (List.mem_of_getElem? HLX.out) hlo (by simp only; omega)
              have hbi : (bmp l 1 0 R)[i]? = some (r,h + 1):=by rw [bmp_get,HXR.out]; simp only [Option.map_some,Int.zero_add,hin2,if_true]
              have u1 : IntKind.i64.wrap (h + 1) = h + 1:=(IntWalk.i64_in _ (by omega)).trans (by omega)
              clear hin2
              have b5 : ¬ (h + 1) < 0:=by omega
              by_cases hov : 1048576 < h + 1
              · have HE : Hid (∃ c ∈ bmp l 1 0 R,¬ (0≤c.2∧c.2≤1048576)):=⟨_,List.mem_of_getElem? hbi,by simp only; omega⟩
                have hAl : Below wr.heap.size wr (wr.alloc (Obj.cells #[.int .i32 r,.int .i64 (h + 1)] 63)):=(Below.refl _ _).alloc (Nat.le_refl _) _
                have hB7:=hB.trans (hAl.mono hBs)
                clear hbi hAl ho
                go_wp2_with fail
                refine bodyPost_ret (results_tmp2 rfl _ _ _) rfl ?_
                exact ⟨_,_,rfl,.inr ⟨rfl,rfl,HE.out⟩,HB2.out.trans (hB7.mono hs2)⟩
              · have HBI : Hid ((bmp l 1 0 R).take i ++ [(r,h + 1)] = (bmp l 1 0 R).take (i + 1)):=by
                  obtain ⟨h9,e9⟩:=List.getElem?_eq_some_iff.1 hbi
                  exact (by rw [List.take_succ_eq_append_getElem h9,e9] : (bmp l 1 0 R).take i ++ [(r,h + 1)] = (bmp l 1 0 R).take (i + 1))
                have hll : ((bmp l 1 0 R).take i).length≤1048576:=by rw [List.length_take]; omega
                generalize hacc : ((bmp l 1 0 R).take i) = acc at *
                clear hacc
                have hAl : Below wr.heap.size wr (wr.alloc (Obj.cells #[Value.int .i32 r,Value.int .i64 (h + 1)] 63)):=(Below.refl _ _).alloc (Nat.le_refl _) _
                obtain ⟨av,cv,rfl⟩:=ho.shape
                obtain ⟨g7,cap7,w7,hr7,ho7,hb7,_,_⟩:=appendF_one kindC layC (ho.below hAl) (by have:=hAl.size; omega) (r,h + 1) #[Value.int .i32 r,Value.int .i64 (h + 1)] rfl 63 (by omega) (by omega) 29
                have hsz : (wr.alloc (Obj.cells #[Value.int .i32 r,Value.int .i64 (h + 1)] 63)).heap.size = wr.heap.size + 1:=by simp
                rw [hsz] at hr7
                have hB7:=(hB.trans (hAl.mono hBs)).trans hb7
                clear hbi hAl hb7
                go_upto_region 35 with fail
                clear p5 q5
                go_wp2_with (at_builtin; refine wpList_append_hr rfl _ _ 29 rfl _ _ rfl rfl hr7 ?_)
                go_roundw
                case rel=>exact ⟨i + 1,k2,rfl,by go_num,by omega,by omega,fun j x hj hx=>by have:=HNO.out j x hj hx; omega,by rw [← HBI.out]; exact ho7,fun c hc=>by rw [← HBI.out] at hc; rcases List.mem_append.1 hc with h | h; exact HAL.out c h; (obtain rfl:=List.mem_singleton.1 h; exact ⟨by simp only; omega,by simp only; omega⟩),hB7⟩
                case measure=>first | (simp [RowKit.intOf]; omega) | simp [RowKit.intOf]
            · have hin2 : inL l (i : Int) = false:=inL_no HS.out HNO.out (fun x hx=>by rw [HLX.out] at hx; injection hx with hx; subst hx; simp only; omega)
              have hbi : (bmp l 1 0 R)[i]? = some (r,h):=by rw [bmp_get,HXR.out]; rw [Option.map_some]; simp only [Int.zero_add,hin2,Bool.false_eq_true,if_false]
              clear hin2
              have HBI : Hid ((bmp l 1 0 R).take i ++ [(r,h)] = (bmp l 1 0 R).take (i + 1)):=by
                obtain ⟨h9,e9⟩:=List.getElem?_eq_some_iff.1 hbi
                exact (by rw [List.take_succ_eq_append_getElem h9,e9] : (bmp l 1 0 R).take i ++ [(r,h)] = (bmp l 1 0 R).take (i + 1))
              have hll : ((bmp l 1 0 R).take i).length≤1048576:=by rw [List.length_take]; omega
              generalize hacc : ((bmp l 1 0 R).take i) = acc at *
              clear hacc
              have hAl : Below wr.heap.size wr (wr.alloc (Obj.cells #[Value.int .i32 r,Value.int .i64 (h)] 63)):=(Below.refl _ _).alloc (Nat.le_refl _) _
              obtain ⟨av,cv,rfl⟩:=ho.shape
              obtain ⟨g7,cap7,w7,hr7,ho7,hb7,_,_⟩:=appendF_one kindC layC (ho.below hAl) (by have:=hAl.size; omega) (r,h) #[Value.int .i32 r,Value.int .i64 (h)] rfl 63 (by omega) (by omega) 29
              have hsz : (wr.alloc (Obj.cells #[Value.int .i32 r,Value.int .i64 (h)] 63)).heap.size = wr.heap.size + 1:=by simp
              rw [hsz] at hr7
              have hB7:=(hB.trans (hAl.mono hBs)).trans hb7
              clear hbi hAl hb7
              go_upto_region 35 with fail
              clear p5 q5
              go_wp2_with (at_builtin; refine wpList_append_hr rfl _ _ 29 rfl _ _ rfl rfl hr7 ?_)
              go_roundw
              case rel=>exact ⟨i + 1,k2,rfl,by go_num,by omega,by omega,fun j x hj hx=>by have:=HNO.out j x hj hx; omega,by rw [← HBI.out]; exact ho7,fun c hc=>by rw [← HBI.out] at hc; rcases List.mem_append.1 hc with h | h; exact HAL.out c h; (obtain rfl:=List.mem_singleton.1 h; exact ⟨by simp only; omega,by simp only; omega⟩),hB7⟩
              case measure=>first | (simp [RowKit.intOf]; omega) | simp [RowKit.intOf]
        · have b1 : ¬ (k2 : Int) < (m : Int):=by omega
          have hin2 : inL l (i : Int) = false:=inL_no HS.out HNO.out (fun x hx=>by have:=(List.getElem?_eq_some_iff.1 hx).1; have:=HLL.out; omega)
          have hbi : (bmp l 1 0 R)[i]? = some (r,h):=by rw [bmp_get,HXR.out]; rw [Option.map_some]; simp only [Int.zero_add,hin2,Bool.false_eq_true,if_false]
          clear hin2
          have HBI : Hid ((bmp l 1 0 R).take i ++ [(r,h)] = (bmp l 1 0 R).take (i + 1)):=by
            obtain ⟨h9,e9⟩:=List.getElem?_eq_some_iff.1 hbi
            exact (by rw [List.take_succ_eq_append_getElem h9,e9] : (bmp l 1 0 R).take i ++ [(r,h)] = (bmp l 1 0 R).take (i + 1))
          have hll : ((bmp l 1 0 R).take i).length≤1048576:=by rw [List.length_take]; omega
          generalize hacc : ((bmp l 1 0 R).take i) = acc at *
          clear hacc
          have hAl : Below wr.heap.size wr (wr.alloc (Obj.cells #[Value.int .i32 r,Value.int .i64 (h)] 63)):=(Below.refl _ _).alloc (Nat.le_refl _) _
          obtain ⟨av,cv,rfl⟩:=ho.shape
          obtain ⟨g7,cap7,w7,hr7,ho7,hb7,_,_⟩:=appendF_one kindC layC (ho.below hAl) (by have:=hAl.size; omega) (r,h) #[Value.int .i32 r,Value.int .i64 (h)] rfl 63 (by omega) (by omega) 29
          have hsz : (wr.alloc (Obj.cells #[Value.int .i32 r,Value.int .i64 (h)] 63)).heap.size = wr.heap.size + 1:=by simp
          rw [hsz] at hr7
          have hB7:=(hB.trans (hAl.mono hBs)).trans hb7
          clear hbi hAl hb7
          go_upto_region 35 with fail
          clear p5 q5
          go_wp2_with (at_builtin; refine wpList_append_hr rfl _ _ 29 rfl _ _ rfl rfl hr7 ?_)
          go_roundw
          case rel=>exact ⟨i + 1,k2,rfl,by go_num,by omega,by omega,fun j x hj hx=>by have:=HNO.out j x hj hx; omega,by rw [← HBI.out]; exact ho7,fun c hc=>by rw [← HBI.out] at hc; rcases List.mem_append.1 hc with h | h; exact HAL.out c h; (obtain rfl:=List.mem_singleton.1 h; exact ⟨by simp only; omega,by simp only; omega⟩),hB7⟩
          case measure=>first | (simp [RowKit.intOf]; omega) | simp [RowKit.intOf]
    · obtain rfl : i = nR:=by omega
      have b0 : ¬ (i : Int) < (i : Int):=by omega
      have b00 : decide ((i : Int) < (i : Int)) = false:=decide_eq_false b0
      have e9 : (bmp l 1 0 R).take i = bmp l 1 0 R:=List.take_of_length_le (by rw [bmp_len]; have:=HRL.out; omega)
      rw [e9] at ho HAL
      have HO : Hid (OwnF cellV 2 63 wr w2.heap.size _ (bmp l 1 0 R)):=ho
      clear ho
      go_wp2_with fail
      refine bodyPost_ret (results_tmp2 rfl _ _ _) rfl ?_
      exact ⟨_,_,rfl,.inl ⟨rfl,HO.out.mono hs2,HAL.out⟩,HB2.out.trans (hB.mono hs2)⟩
set_option maxHeartbeats 8000000 in
theorem gApply_3 {c n p : Int} {s : ByteArray} {l : List (Int × Int)} {tc tn : Int} {on : Bool} {w : World} {aR : Option Addr} {nR cR : Nat} {R : List (Int × Int)} (hR : Rw cellV 2 w aR nR cR R) {a : Option Addr} {m cap : Nat} (hl : Sp.Rng w a m cap l) (hs : s.size≤2097152) (hsr : Srt l) (hc : ∀ c ∈ R,0≤c.2∧c.2≤1048576) (hnR : nR≤1048576) (hm : m≤1000000000)
    (hC : opCheck ⟨c,n,3,p,s,l,tc,tn,on⟩ (nR : Int) = 0) :
    Calls Tryz.prog 12 #[.slice aR nR cR,opVal ⟨c,n,3,p,s,l,tc,tn,on⟩ (.slice a m cap)] w fun e w'=>∃ v x,e = .returned (.tuple #[v,.int .i64 x])∧GapP l (-1) 30 R (.slice aR nR cR) w.heap.size w' v x∧Below w.heap.size w w':=by
  simp only [opVal] at *
  have HRL : Hid (R.length = nR):=hR.len
  have HLL : Hid (l.length = m):=hl.len
  have HS : Hid (Srt l):=hsr
  have HCN : Hid (∀ c ∈ R,0≤c.2∧c.2≤1048576):=hc
  have HC : Hid (∀ W,Below w.heap.size w W→Calls Tryz.prog 27 #[.agg #[.int .i64 c,.int .i64 n,.int .i64 3,.int .i64 p,.string s,.slice a m cap,.int .i64 tc,.int .i64 tn,.bool on],.int .i64 (nR : Int)] W fun e w'=>e = .returned (.int .i64 0)∧Below W.heap.size W w'):=fun W hb=>by
    have:=gCheck_any (o:=⟨c,n,3,p,s,l,tc,tn,on⟩) (total:=(nR : Int)) (hl.below hb) hs
    rw [hC] at this
    exact this
  clear hC hsr hc
  go_enter Tryz.func12,Tryz.ntmps12
  go_wp2_with fail
  have hB0 : Below w.heap.size w (w.alloc (Obj.cells #[.int .i64 c,.int .i64 n,.int .i64 3,.int .i64 p,.string s,.slice a m cap,.int .i64 tc,.int .i64 tn,.bool on] 44)):=(Below.refl w.heap.size w).alloc (Nat.le_refl _) _
  refine (HC.out _ hB0).mono ?_
  rintro e w2 ⟨rfl,hb1⟩
  have hX1 : w2.heap[w.heap.size]? = some (Obj.cells #[.int .i64 c,.int .i64 n,.int .i64 3,.int .i64 p,.string s,.slice a m cap,.int .i64 tc,.int .i64 tn,.bool on] 44):=(hb1.block _ (by simp)).trans (alloc_last _ _ _ rfl)
  obtain ⟨d0,d1,d2,d3,d4,d5,d6,d7,d8⟩:=box9 hX1
  have hB2:=hB0.trans (hb1.mono hB0.size)
  have hlt2:=(Array.getElem?_eq_some_iff.1 hX1).1
  clear hB0 hb1 HC
  have HAT : Hid (∀ W,Below w2.heap.size w2 W→W.cell? ⟨w.heap.size,5,none⟩ = some (.slice a m cap)):=fun W hb=>by
    have:=(hb.block _ hlt2).trans hX1
    rw [Lib.cell_of_heap this]
    rfl
  have HR : Hid (Rw cellV 2 w2 aR nR cR R):=hR.below hB2
  have HL : Hid (Rw rngV 2 w2 a m cap l):=rw_of_rng (hl.below hB2)
  have HB2 : Hid (Below w.heap.size w w2):=hB2
  have hs2:=hB2.size
  clear hX1 hB2 hR hl
  go_wp2_with fail
  clear d0 d1 d2 d3 d4 d5 d6 d7 d8
  go_loopw [8,14,15] (fun v va vi W=>∃ i k : Nat,va = .int .i64 (k : Int)∧vi = .int .i64 (i : Int)∧i≤nR∧k≤m∧(∀ (j : Nat) x,j < k→l[j]? = some x→x.2≤(i : Int))∧OwnF cellV 2 63 W w2.heap.size v ((bmp l (-1) 0 R).take i)∧(∀ c ∈ (bmp l (-1) 0 R).take i,0≤c.2∧c.2≤1048576)∧Below w2.heap.size w2 W) (fun _ _ vi _=>nR - (RowKit.intOf vi).toNat)
  case atStart=>exact ⟨0,0,rfl,rfl,Nat.zero_le _,Nat.zero_le _,fun j x hj=>absurd hj (Nat.not_lt_zero _),by rw [List.take_zero]; exact ownF_nil _ _,fun c hc=>by simp at hc,Below.refl _ _⟩
  case round =>
    obtain ⟨i,k,rfl,rfl,hin,hkm,hno,ho,hal,hB⟩:=hrel
    have p5:=HAT.out _ hB
    have hBs:=hB.size
    have HAL : Hid (∀ c ∈ (bmp l (-1) 0 R).take i,0≤c.2∧c.2≤1048576):=hal
    have HNO : Hid (∀ (j : Nat) x,j < k→l[j]? = some x→x.2≤(i : Int)):=hno
    clear hal hno
    by_cases hi : i < nR
    · have b0 : (i : Int) < (nR : Int):=by omega
      obtain ⟨g,off,x,rfl,hg,hx,hcl⟩:=HR.out.at i hi
      have hhb:=HCN.out _ (List.mem_of_getElem? hx)
      obtain ⟨r,h⟩:=x
      simp only at hhb
      have HXR : Hid (R[i]? = some (r,h)):=hx
      have e1 : wr.cell? ⟨g,off + i * 2,none⟩ = some (Value.int .i32 r):=(hB.cell (p:=⟨g,off + i * 2 + 0,none⟩) hg).trans (hcl 0 _ rfl)
      have e2 : wr.cell? ⟨g,off + i * 2 + 1,none⟩ = some (.int .i64 h):=(hB.cell (p:=⟨g,off + i * 2 + 1,none⟩) hg).trans (hcl 1 _ rfl)
      have q5:=fun o=>(World.cell?_alloc_lt wr o ⟨w.heap.size,5,none⟩ (show w.heap.size < wr.heap.size by omega)).trans p5
      clear hcl hx
      go_wp2_with fail
      clear e1 e2
      go_loop [14] (fun va=>∃ k2 : Nat,va = .int .i64 (k2 : Int)∧k2≤m∧∀ (j : Nat) x,j < k2→l[j]? = some x→x.2≤(i : Int)) (fun v=>m - (RowKit.intOf v).toNat)
      case atStart=>exact ⟨k,rfl,hkm,HNO.out⟩
      case round =>
        clear hkm HNO
        obtain ⟨k2,rfl,hk2,hno⟩:=hrel
        have HNO : Hid (∀ (j : Nat) x,j < k2→l[j]? = some x→x.2≤(i : Int)):=hno
        clear hno
        by_cases hkm : k2 < m
        · obtain ⟨gl,ofl,x,rfl,hgl,hlx,hlc⟩:=HL.out.at k2 hkm
          obtain ⟨xlo,xhi⟩:=x
          have f1:=fun o=>(World.cell?_alloc_lt wr o ⟨gl,ofl + k2 * 2,none⟩ (show gl < wr.heap.size by omega)).trans ((hB.cell (p:=⟨gl,ofl + k2 * 2 + 0,none⟩) hgl).trans (hlc 0 _ rfl))
          have f2:=fun o=>(World.cell?_alloc_lt wr o ⟨gl,ofl + k2 * 2 + 1,none⟩ (show gl < wr.heap.size by omega)).trans ((hB.cell (p:=⟨gl,ofl + k2 * 2 + 1,none⟩) hgl).trans (hlc 1 _ rfl))
          have HLX : Hid (l[k2]? = some (xlo,xhi)):=hlx
          have b1 : (k2 : Int) < (m : Int):=by omega
          clear hlc hlx
          by_cases hhi : xhi≤(i : Int)
          · go_wp2_with fail
            go_round
            case rel=>exact ⟨k2 + 1,by go_num,by omega,fun j x hj hx=>by
              by_cases e : j = k2
              · subst e
                rw [HLX.out] at hx
                injection hx with hx
                subst hx
                exact hhi
              · exact HNO.out j x (by omega) hx⟩
            case measure=>simp [RowKit.intOf]; omega
          · have b2 : ¬ xhi≤(i : Int):=hhi
            by_cases hlo : xlo≤(i : Int)
            · have hin2 : inL l (i : Int) = true:=inL_yes (List.mem_of_getElem? HLX.out) hlo (by simp only; omega)
              have hbi : (bmp l (-1) 0 R)[i]? = some (r,h + (-1)):=by rw [bmp_get,HXR.out]; simp only [Option.map_some,Int.zero_add,hin2,if_true]
              have u1 : IntKind.i64.wrap (h - 1) = h + (-1):=(IntWalk.i64_in _ (by omega)).trans (by omega)
              clear hin2
              by_cases hov : h + (-1) < 0
              · have HE : Hid (∃ c ∈ bmp l (-1) 0 R,¬ (0≤c.2∧c.2≤1048576)):=⟨_,List.mem_of_getElem? hbi,by simp only; omega⟩
                have hAl : Below wr.heap.size wr (wr.alloc (Obj.cells #[.int .i32 r,.int .i64 (h + (-1))] 63)):=(Below.refl _ _).alloc (Nat.le_refl _) _
                have hB7:=hB.trans (hAl.mono hBs)
                clear hbi hAl ho
                go_wp2_with fail
                refine bodyPost_ret (results_tmp2 rfl _ _ _) rfl ?_
                exact ⟨_,_,rfl,.inr ⟨rfl,rfl,HE.out⟩,HB2.out.trans (hB7.mono hs2)⟩
              · have b5 : ¬ 1048576 < (h + (-1)):=by omega
                have HBI : Hid ((bmp l (-1) 0 R).take i ++ [(r,h + (-1))] = (bmp l (-1) 0 R).take (i + 1)):=by
                  obtain ⟨h9,e9⟩:=List.getElem?_eq_some_iff.1 hbi
                  exact (by rw [List.take_succ_eq_append_getElem h9,e9] : (bmp l (-1) 0 R).take i ++ [(r,h + (-1))] = (bmp l (-1) 0 R).take (i + 1))
                have hll : ((bmp l (-1) 0 R).take i).length≤1048576:=by rw [List.length_take]; omega
                generalize hacc : ((bmp l (-1) 0 R).take i) = acc at *
                clear hacc
                have hAl : Below wr.heap.size wr (wr.alloc (Obj.cells #[Value.int .i32 r,Value.int .i64 (h + (-1))] 63)):=(Below.refl _ _).alloc (Nat.le_refl _) _
                obtain ⟨av,cv,rfl⟩:=ho.shape
                obtain ⟨g7,cap7,w7,hr7,ho7,hb7,_,_⟩:=appendF_one kindC layC (ho.below hAl) (by have:=hAl.size; omega) (r,h + (-1)) #[Value.int .i32 r,Value.int .i64 (h + (-1))] rfl 63 (by omega) (by omega) 29
                have hsz : (wr.alloc (Obj.cells #[Value.int .i32 r,Value.int .i64 (h + (-1))] 63)).heap.size = wr.heap.size + 1:=by simp
                rw [hsz] at hr7
                have hB7:=(hB.trans (hAl.mono hBs)).trans hb7
                clear hbi hAl hb7
                go_upto_region 35 with fail
                clear p5 q5
                go_wp2_with (at_builtin; refine wpList_append_hr rfl _ _ 29 rfl _ _ rfl rfl hr7 ?_)
                go_roundw
                case rel=>exact ⟨i + 1,k2,rfl,by go_num,by omega,by omega,fun j x hj hx=>by have:=HNO.out j x hj hx; omega,by rw [← HBI.out]; exact ho7,fun c hc=>by rw [← HBI.out] at hc; rcases List.mem_append.1 hc with h | h; exact HAL.out c h; (obtain rfl:=List.mem_singleton.1 h; exact ⟨by simp only; omega,by simp only; omega⟩),hB7⟩
                case measure=>first | (simp [RowKit.intOf]; omega) | simp [RowKit.intOf]
            · have hin2 : inL l (i : Int) = false:=inL_no HS.out HNO.out (fun x hx=>by rw [HLX.out] at hx; injection hx with hx; subst hx; simp only; omega)
              have hbi : (bmp l (-1) 0 R)[i]? = some (r,h):=by rw [bmp_get,HXR.out]; rw [Option.map_some]; simp only [Int.zero_add,hin2,Bool.false_eq_true,if_false]
              clear hin2
              have HBI : Hid ((bmp l (-1) 0 R).take i ++ [(r,h)] = (bmp l (-1) 0 R).take (i + 1)):=by
                obtain ⟨h9,e9⟩:=List.getElem?_eq_some_iff.1 hbi
                exact (by rw [List.take_succ_eq_append_getElem h9,e9] : (bmp l (-1) 0 R).take i ++ [(r,h)] = (bmp l (-1) 0 R).take (i + 1))
              have hll : ((bmp l (-1) 0 R).take i).length≤1048576:=by rw [List.length_take]; omega
              generalize hacc : ((bmp l (-1) 0 R).take i) = acc at *
              clear hacc
              have hAl : Below wr.heap.size wr (wr.alloc (Obj.cells #[Value.int .i32 r,Value.int .i64 (h)] 63)):=(Below.refl _ _).alloc (Nat.le_refl _) _
              obtain ⟨av,cv,rfl⟩:=ho.shape
              obtain ⟨g7,cap7,w7,hr7,ho7,hb7,_,_⟩:=appendF_one kindC layC (ho.below hAl) (by have:=hAl.size; omega) (r,h) #[Value.int .i32 r,Value.int .i64 (h)] rfl 63 (by omega) (by omega) 29
              have hsz : (wr.alloc (Obj.cells #[Value.int .i32 r,Value.int .i64 (h)] 63)).heap.size = wr.heap.size + 1:=by simp
              rw [hsz] at hr7
              have hB7:=(hB.trans (hAl.mono hBs)).trans hb7
              clear hbi hAl hb7
              go_upto_region 35 with fail
              clear p5 q5
              go_wp2_with (at_builtin; refine wpList_append_hr rfl _ _ 29 rfl _ _ rfl rfl hr7 ?_)
              go_roundw
              case rel=>exact ⟨i + 1,k2,rfl,by go_num,by omega,by omega,fun j x hj hx=>by have:=HNO.out j x hj hx; omega,by rw [← HBI.out]; exact ho7,fun c hc=>by rw [← HBI.out] at hc; rcases List.mem_append.1 hc with h | h; exact HAL.out c h; (obtain rfl:=List.mem_singleton.1 h; exact ⟨by simp only; omega,by simp only; omega⟩),hB7⟩
              case measure=>first | (simp [RowKit.intOf]; omega) | simp [RowKit.intOf]
        · have b1 : ¬ (k2 : Int) < (m : Int):=by omega
          have hin2 : inL l (i : Int) = false:=inL_no HS.out HNO.out (fun x hx=>by have:=(List.getElem?_eq_some_iff.1 hx).1; have:=HLL.out; omega)
          have hbi : (bmp l (-1) 0 R)[i]? = some (r,h):=by rw [bmp_get,HXR.out]; rw [Option.map_some]; simp only [Int.zero_add,hin2,Bool.false_eq_true,if_false]
          clear hin2
          have HBI : Hid ((bmp l (-1) 0 R).take i ++ [(r,h)] = (bmp l (-1) 0 R).take (i + 1)):=by
            obtain ⟨h9,e9⟩:=List.getElem?_eq_some_iff.1 hbi
            exact (by rw [List.take_succ_eq_append_getElem h9,e9] : (bmp l (-1) 0 R).take i ++ [(r,h)] = (bmp l (-1) 0 R).take (i + 1))
          have hll : ((bmp l (-1) 0 R).take i).length≤1048576:=by rw [List.length_take]; omega
          generalize hacc : ((bmp l (-1) 0 R).take i) = acc at *
          clear hacc
          have hAl : Below wr.heap.size wr (wr.alloc (Obj.cells #[Value.int .i32 r,Value.int .i64 (h)] 63)):=(Below.refl _ _).alloc (Nat.le_refl _) _
          obtain ⟨av,cv,rfl⟩:=ho.shape
          obtain ⟨g7,cap7,w7,hr7,ho7,hb7,_,_⟩:=appendF_one kindC layC (ho.below hAl) (by have:=hAl.size; omega) (r,h) #[Value.int .i32 r,Value.int .i64 (h)] rfl 63 (by omega) (by omega) 29
          have hsz : (wr.alloc (Obj.cells #[Value.int .i32 r,Value.int .i64 (h)] 63)).heap.size = wr.heap.size + 1:=by simp
          rw [hsz] at hr7
          have hB7:=(hB.trans (hAl.mono hBs)).trans hb7
          clear hbi hAl hb7
          go_upto_region 35 with fail
          clear p5 q5
          go_wp2_with (at_builtin; refine wpList_append_hr rfl _ _ 29 rfl _ _ rfl rfl hr7 ?_)
          go_roundw
          case rel=>exact ⟨i + 1,k2,rfl,by go_num,by omega,by omega,fun j x hj hx=>by have:=HNO.out j x hj hx; omega,by rw [← HBI.out]; exact ho7,fun c hc=>by rw [← HBI.out] at hc; rcases List.mem_append.1 hc with h | h; exact HAL.out c h; (obtain rfl:=List.mem_singleton.1 h; exact ⟨by simp only; omega,by simp only; omega⟩),hB7⟩
          case measure=>first | (simp [RowKit.intOf]; omega) | simp [RowKit.intOf]
    · obtain rfl : i = nR:=by omega
      have b0 : ¬ (i : Int) < (i : Int):=by omega
      have b00 : decide ((i : Int) < (i : Int)) = false:=decide_eq_false b0
      have e9 : (bmp l (-1) 0 R).take i = bmp l (-1) 0 R:=List.take_of_length_le (by rw [bmp_len]; have:=HRL.out; omega)
      rw [e9] at ho HAL
      have HO : Hid (OwnF cellV 2 63 wr w2.heap.size _ (bmp l (-1) 0 R)):=ho
      clear ho
      go_wp2_with fail
      refine bodyPost_ret (results_tmp2 rfl _ _ _) rfl ?_
      exact ⟨_,_,rfl,.inl ⟨rfl,HO.out.mono hs2,HAL.out⟩,HB2.out.trans (hB.mono hs2)⟩
end Go.Proofs.YtijpfbcippijoaaGreatDoor

namespace Go.Proofs.YtijpfbcippijoaaGreatDoor
open Go.RowKit Go.Lib
set_option maxRecDepth 100000
def insU (R : List (Int × Int)) (pk : Nat) (rs : List Int) (i : Nat) : List (Int × Int):=if i≤pk then R.take i else R.take pk ++ (rs.map fun r=>(r,0)) ++ (R.drop pk).take (i - pk)
theorem insU_low {R : List (Int × Int)} {pk : Nat} {rs : List Int} {i : Nat} {x : Int × Int} (h : i < pk) (hx : R[i]? = some x) : insU R pk rs i ++ [x] = insU R pk rs (i + 1):=by
  obtain ⟨hi,rfl⟩:=List.getElem?_eq_some_iff.1 hx
  unfold insU
  rw [if_pos (by omega),if_pos (by omega),List.take_succ_eq_append_getElem hi]
theorem insU_high {R : List (Int × Int)} {pk : Nat} {rs : List Int} {i : Nat} {x : Int × Int} (h : pk≤i) (hx : R[i]? = some x) : (R.take pk ++ (rs.map fun r=>(r,(0 : Int))) ++ (R.drop pk).take (i - pk)) ++ [x] = insU R pk rs (i + 1):=by
  obtain ⟨hi,rfl⟩:=List.getElem?_eq_some_iff.1 hx
  unfold insU
  have e : (R.drop pk)[i - pk]? = some R[i]:=by rw [List.getElem?_drop,show pk + (i - pk) = i by omega,List.getElem?_eq_getElem hi]
  obtain ⟨hj,ej⟩:=List.getElem?_eq_some_iff.1 e
  rw [if_neg (by omega),show i + 1 - pk = (i - pk) + 1 by omega,List.take_succ_eq_append_getElem hj,ej]
  simp only [List.append_assoc]
theorem insU_end {R : List (Int × Int)} {pk : Nat} {rs : List Int} (h : pk≤R.length) : R.take pk ++ (rs.map fun r=>(r,(0 : Int))) ++ (R.drop pk).take (R.length - pk) = insU R pk rs (R.length + 1):=by
  unfold insU
  rw [if_neg (by omega),List.take_of_length_le (l:=R.drop pk) (by simp),List.take_of_length_le (l:=R.drop pk) (i:=R.length + 1 - pk) (by simp; omega)]
theorem insU_all {R : List (Int × Int)} {pk : Nat} {rs : List Int} (h : pk≤R.length) : insU R pk rs (R.length + 1) = putL R pk rs 0:=by
  rw [← insU_end h,List.take_of_length_le (l:=R.drop pk) (by simp)]
  rfl
theorem insU_gt {R : List (Int × Int)} {pk : Nat} {rs : List Int} {i : Nat} (h : pk < i) : insU R pk rs i = R.take pk ++ (rs.map fun r=>(r,(0 : Int))) ++ (R.drop pk).take (i - pk):=by
  unfold insU
  rw [if_neg (by omega)]
theorem insU_end' {R : List (Int × Int)} {pk : Nat} {rs : List Int} (h : pk≤R.length) {i : Nat} (hi : R.length = i∧pk < i) : insU R pk rs i = insU R pk rs (i + 1):=by
  obtain ⟨rfl,h2⟩:=hi
  rw [insU_gt h2,insU_end h]
theorem wrap32_ok {r : Int} (h : okR r) : IntKind.i32.wrap r = r:=by
  have:=valid_le h.1
  exact IntWalk.i32_in r (by omega)
theorem insU_len (R : List (Int × Int)) (pk : Nat) (rs : List Int) (i : Nat) : (insU R pk rs i).length≤R.length + rs.length:=by
  unfold insU
  split
  · rw [List.length_take]; omega
  · simp only [List.length_append,List.length_take,List.length_map,List.length_drop]; omega
set_option maxHeartbeats 8000000 in
theorem gApply_ins {c n : Int} {s : ByteArray} {l : List (Int × Int)} {tc tn : Int} {on : Bool} {w : World} {aR : Option Addr} {nR cR : Nat} {R : List (Int × Int)} (hR : Rw cellV 2 w aR nR cR R) {a : Option Addr} {m cap : Nat} (hl : Sp.Rng w a m cap l) (hs : s.size≤2097152) {pk : Nat} {rs : List Int} (hpk : pk≤nR) (ht : IsText s rs) (hne : rs ≠ []) (hrs : rs.length≤256) (hnR : nR≤1048576)
    (hC : opCheck ⟨c,n,1,(pk : Int),s,l,tc,tn,on⟩ (nR : Int) = 0) :
    Calls Tryz.prog 12 #[.slice aR nR cR,opVal ⟨c,n,1,(pk : Int),s,l,tc,tn,on⟩ (.slice a m cap)] w fun e w'=>∃ v,e = .returned (.tuple #[v,.int .i64 0])∧OwnF cellV 2 63 w' w.heap.size v (putL R pk rs 0)∧Below w.heap.size w w':=by
  simp only [opVal] at *
  have HRL : Hid (R.length = nR):=hR.len
  have HC : Hid (∀ W,Below w.heap.size w W→Calls Tryz.prog 27 #[.agg #[.int .i64 c,.int .i64 n,.int .i64 1,.int .i64 (pk : Int),.string s,.slice a m cap,.int .i64 tc,.int .i64 tn,.bool on],.int .i64 (nR : Int)] W fun e w'=>e = .returned (.int .i64 0)∧Below W.heap.size W w'):=fun W hb=>by
    have:=gCheck_any (o:=⟨c,n,1,(pk : Int),s,l,tc,tn,on⟩) (total:=(nR : Int)) (hl.below hb) hs
    rw [hC] at this
    exact this
  clear hC hl
  have hsp : Split s rs []:=⟨by rw [List.append_nil]; exact ht.bytes,ht.ok,.inl rfl⟩
  have HOKR : Hid (∀ r ∈ rs,okR r):=ht.ok
  have hrp : 0 < rs.length:=List.length_pos_iff.2 hne
  clear ht hne
  go_enter Tryz.func12,Tryz.ntmps12
  go_wp2_with fail
  have hB0 : Below w.heap.size w (w.alloc (Obj.cells #[.int .i64 c,.int .i64 n,.int .i64 1,.int .i64 (pk : Int),.string s,.slice a m cap,.int .i64 tc,.int .i64 tn,.bool on] 44)):=(Below.refl w.heap.size w).alloc (Nat.le_refl _) _
  refine (HC.out _ hB0).mono ?_
  rintro e w1 ⟨rfl,hb1⟩
  have hX1 : w1.heap[w.heap.size]? = some (Obj.cells #[.int .i64 c,.int .i64 n,.int .i64 1,.int .i64 (pk : Int),.string s,.slice a m cap,.int .i64 tc,.int .i64 tn,.bool on] 44):=(hb1.block _ (by simp)).trans (alloc_last _ _ _ rfl)
  obtain ⟨d0,d1,d2,d3,d4,d5,d6,d7,d8⟩:=box9 hX1
  have hB1:=hB0.trans (hb1.mono hB0.size)
  clear hB0 hb1 HC
  have T2:=runes_any hsp hs w1
  go_wp2_with fail
  refine T2.mono ?_
  rintro e w2 ⟨aI,nI,cI,pp,cc,rfl,hb2,hor⟩
  clear T2 d0 d1 d2 d3 d4 d5 d6 d7 d8
  obtain ⟨rfl,rfl,rfl,hI⟩ : pp = 0∧cc = 0∧nI = rs.length∧w2.ownsRow w1.heap.size 3 1 (.slice aI nI cI) nI (intsV rs):=by
    rcases hor with ⟨_,h1,h2,h3,h4⟩ | ⟨h1,_⟩
    · exact ⟨h1,h2,h3,h4⟩
    · exact absurd trivial h1
  clear hor hsp
  have hX2:=(hb2.block _ (Array.getElem?_eq_some_iff.1 hX1).1).trans hX1
  have hB2:=hB1.trans (hb2.mono hB1.size)
  have hlt2:=(Array.getElem?_eq_some_iff.1 hX2).1
  obtain ⟨gI,eI,hgI,HI⟩ : ∃ gI,aI = some ⟨gI,0,none⟩∧gI < w2.heap.size∧Hid (∀ (k : Nat) r,rs[k]? = some r→w2.cell? ⟨gI,k,none⟩ = some (.int .i64 r)):=by
    rcases hI.2 with ⟨e,h0⟩ | ⟨g,cap',cur,e,hB,hh,rest⟩
    · omega
    · injection e with e1 e2 e3
      subst e1 e3
      refine ⟨g,rfl,(Array.getElem?_eq_some_iff.1 hh).1,fun k r hk=>?_⟩
      have hkl:=(List.getElem?_eq_some_iff.1 hk).1
      rw [hI.cellAt k (by omega)]
      simp only [intsV,List.getElem?_map,hk]
      rfl
  subst eI
  have HAT : Hid (∀ W,Below w2.heap.size w2 W→W.cell? ⟨w.heap.size,3,none⟩ = some (.int .i64 (pk : Int))):=fun W hb=>by
    have:=(hb.block _ hlt2).trans hX2
    rw [Lib.cell_of_heap this]
    rfl
  have HR : Hid (Rw cellV 2 w2 aR nR cR R):=hR.below hB2
  have HB2 : Hid (Below w.heap.size w w2):=hB2
  have hs2:=hB2.size
  clear hX1 hX2 hB1 hB2 hb2 hI hR
  go_wp2_with fail
  go_loopw [8,12] (fun v vi W=>∃ i : Nat,vi = .int .i64 (i : Int)∧i≤nR + 1∧OwnF cellV 2 63 W w2.heap.size v (insU R pk rs i)∧Below w2.heap.size w2 W) (fun _ vi _=>nR + 1 - (RowKit.intOf vi).toNat)
  case atStart=>exact ⟨0,rfl,Nat.zero_le _,by unfold insU; rw [if_pos (Nat.zero_le _),List.take_zero]; exact ownF_nil _ _,Below.refl _ _⟩
  case round =>
    obtain ⟨i,rfl,hin,ho,hB⟩:=hrel
    have p3:=HAT.out _ hB
    by_cases hi : i≤nR
    · by_cases hi2 : i < pk
      · have b1 : (i : Int)≤(nR : Int):=by omega
        have b2 : ((i : Int) == (pk : Int)) = false:=by simp; omega
        have HLEN : Hid ((insU R pk rs i).length≤1048832):=by have:=insU_len R pk rs i; have:=HRL.out; exact (by omega : (insU R pk rs i).length≤1048832)
        go_wp2_with fail
        go_loopw [8,13] (fun v vk W=>vk = .int .i64 0∧OwnF cellV 2 63 W w2.heap.size v (insU R pk rs i)∧Below w2.heap.size w2 W) (fun _ _ _=>0)
        case atStart=>exact ⟨rfl,ho,hB⟩
        case round =>
          clear ho hB p3
          obtain ⟨rfl,ho,hB⟩:=hrel
          have p3:=HAT.out _ hB
          have b3 : (i : Int) < (nR : Int):=by omega
          obtain ⟨g,off,x,rfl,hg,hx,hc⟩:=HR.out.at i (by omega)
          obtain ⟨xr,xh⟩:=x
          have k0 : wr.cell? ⟨g,off + i * 2,none⟩ = some (.int .i32 xr):=(hB.cell (p:=⟨g,off + i * 2 + 0,none⟩) hg).trans (hc 0 _ rfl)
          have k1 : wr.cell? ⟨g,off + i * 2 + 1,none⟩ = some (.int .i64 xh):=(hB.cell (p:=⟨g,off + i * 2 + 1,none⟩) hg).trans (hc 1 _ rfl)
          have HSN : Hid (insU R pk rs i ++ [(xr,xh)] = insU R pk rs (i + 1)):=insU_low hi2 hx
          clear hc hx
          have hBs:=hB.size
          have hll : (insU R pk rs i).length≤1048832:=by have:=HLEN.out; omega
          generalize hacc : (insU R pk rs i) = acc at *
          have HACC : Hid ((insU R pk rs i) = acc):=hacc
          clear hacc
          obtain ⟨av,cv,rfl⟩:=ho.shape
          obtain ⟨g7,cap7,w7,hr7,ho7,hb7,_,_⟩:=appendF_one kindC layC ho hBs (xr,xh) #[.int .i32 xr,.int .i64 xh] rfl 63 (by omega) (by omega) 29
          have hB7:=hB.trans hb7
          go_wp2_with (at_builtin; refine wpList_append_hr rfl _ _ 29 rfl _ _ rfl rfl hr7 ?_)
          go_roundw
          case rel=>exact ⟨i + 1,by go_num,by omega,by rw [← HSN.out]; exact ho7,hB7⟩
          case measure=>first | (simp [RowKit.intOf]; omega) | simp [RowKit.intOf]
      · by_cases hi4 : i = pk
        · subst hi4
          have b1 : (i : Int)≤(nR : Int):=by omega
          have ho0:=ho
          unfold insU at ho0
          rw [if_pos (Nat.le_refl _)] at ho0
          go_wp2_with fail
          go_loopw [8,13] (fun v vk W=>∃ k : Nat,vk = .int .i64 (k : Int)∧k≤rs.length∧OwnF cellV 2 63 W w2.heap.size v (R.take i ++ (rs.take k).map fun r=>(r,(0 : Int)))∧Below w2.heap.size w2 W) (fun _ vk _=>rs.length - (RowKit.intOf vk).toNat)
          case atStart=>exact ⟨0,rfl,Nat.zero_le _,by rw [List.take_zero,List.map_nil,List.append_nil]; exact ho0,hB⟩
          case round =>
            clear ho ho0 hB p3
            obtain ⟨k,rfl,hk,ho,hB⟩:=hrel
            have p3:=HAT.out _ hB
            have HLEN : Hid ((R.take i ++ (rs.take k).map fun r=>(r,(0 : Int))).length≤1048832):=by have:=HRL.out; exact (by simp only [List.length_append,List.length_take,List.length_map]; omega : (R.take i ++ (rs.take k).map fun r=>(r,(0 : Int))).length≤1048832)
            by_cases hk2 : k < rs.length
            · have b3 : (k : Int) < (rs.length : Int):=by omega
              obtain ⟨r,hr⟩ : ∃ r,rs[k]? = some r:=⟨_,List.getElem?_eq_getElem hk2⟩
              have k0 : wr.cell? ⟨gI,k,none⟩ = some (.int .i64 r):=(hB.cell (p:=⟨gI,k,none⟩) hgI).trans (HI.out k r hr)
              have hokr:=HOKR.out r (List.mem_of_getElem? hr)
              have u1 : IntKind.i32.wrap r = r:=wrap32_ok hokr
              have HSN : Hid ((R.take i ++ (rs.take k).map fun r=>(r,(0 : Int))) ++ [(r,0)] = R.take i ++ (rs.take (k + 1)).map fun r=>(r,(0 : Int))):=by
                obtain ⟨h9,e9⟩:=List.getElem?_eq_some_iff.1 hr
                have e8 : (R.take i ++ (rs.take k).map fun r=>(r,(0 : Int))) ++ [(r,0)] = R.take i ++ (rs.take (k + 1)).map fun r=>(r,(0 : Int)):=by rw [List.take_succ_eq_append_getElem h9,List.map_append,e9,List.append_assoc]; rfl
                exact e8
              clear hr hokr
              have hBs:=hB.size
              have hll : (R.take i ++ (rs.take k).map fun r=>(r,(0 : Int))).length≤1048832:=by have:=HLEN.out; omega
              generalize hacc : (R.take i ++ (rs.take k).map fun r=>(r,(0 : Int))) = acc at *
              have HACC : Hid ((R.take i ++ (rs.take k).map fun r=>(r,(0 : Int))) = acc):=hacc
              clear hacc
              obtain ⟨av,cv,rfl⟩:=ho.shape
              obtain ⟨g7,cap7,w7,hr7,ho7,hb7,_,_⟩:=appendF_one kindC layC ho hBs (r,0) #[.int .i32 r,.int .i64 0] rfl 63 (by omega) (by omega) 29
              have hB7:=hB.trans hb7
              go_wp2_with (at_builtin; refine wpList_append_hr rfl _ _ 29 rfl _ _ rfl rfl hr7 ?_)
              go_roundw
              case rel=>exact ⟨k + 1,by go_num,by omega,by rw [← HSN.out]; exact ho7,hB7⟩
              case measure=>first | (simp [RowKit.intOf]; omega) | simp [RowKit.intOf]
            · obtain rfl : k = rs.length:=by omega
              have b4 : ¬ (rs.length : Int) < (rs.length : Int):=by omega
              have b44 : decide ((rs.length : Int) < (rs.length : Int)) = false:=decide_eq_false b4
              by_cases hi3 : i < nR
              · have b3 : (i : Int) < (nR : Int):=by omega
                obtain ⟨g,off,x,rfl,hg,hx,hc⟩:=HR.out.at i (by omega)
                obtain ⟨xr,xh⟩:=x
                have k0 : wr.cell? ⟨g,off + i * 2,none⟩ = some (.int .i32 xr):=(hB.cell (p:=⟨g,off + i * 2 + 0,none⟩) hg).trans (hc 0 _ rfl)
                have k1 : wr.cell? ⟨g,off + i * 2 + 1,none⟩ = some (.int .i64 xh):=(hB.cell (p:=⟨g,off + i * 2 + 1,none⟩) hg).trans (hc 1 _ rfl)
                have HSN : Hid ((R.take i ++ (rs.take rs.length).map fun r=>(r,(0 : Int))) ++ [(xr,xh)] = insU R i rs (i + 1)):=by
                  have:=insU_high (rs:=rs) (Nat.le_refl i) hx
                  rw [Nat.sub_self,List.take_zero,List.append_nil] at this
                  rw [List.take_length]
                  exact this
                clear hc hx
                have hBs:=hB.size
                have hll : (R.take i ++ (rs.take rs.length).map fun r=>(r,(0 : Int))).length≤1048832:=by have:=HLEN.out; omega
                generalize hacc : (R.take i ++ (rs.take rs.length).map fun r=>(r,(0 : Int))) = acc at *
                have HACC : Hid ((R.take i ++ (rs.take rs.length).map fun r=>(r,(0 : Int))) = acc):=hacc
                clear hacc
                obtain ⟨av,cv,rfl⟩:=ho.shape
                obtain ⟨g7,cap7,w7,hr7,ho7,hb7,_,_⟩:=appendF_one kindC layC ho hBs (xr,xh) #[.int .i32 xr,.int .i64 xh] rfl 63 (by omega) (by omega) 29
                have hB7:=hB.trans hb7
                go_wp2_with (at_builtin; refine wpList_append_hr rfl _ _ 29 rfl _ _ rfl rfl hr7 ?_)
                go_roundw
                case rel=>exact ⟨i + 1,by go_num,by omega,by rw [← HSN.out]; exact ho7,hB7⟩
                case measure=>first | (simp [RowKit.intOf]; omega) | simp [RowKit.intOf]
              · obtain rfl : i = nR:=by omega
                have b3 : ¬ (i : Int) < (i : Int):=by omega
                have b33 : decide ((i : Int) < (i : Int)) = false:=decide_eq_false b3
                have ho7:=ho
                have hB7:=hB
                have HSN : Hid (insU R i rs (i + 1) = R.take i ++ (rs.take rs.length).map fun r=>(r,(0 : Int))):=by
                  have e:=HRL.out
                  have:=insU_end (rs:=rs) (Nat.le_of_eq e.symm)
                  rw [e,Nat.sub_self,List.take_zero,List.append_nil] at this
                  rw [List.take_length]
                  exact this.symm
                go_wp2_with fail
                go_roundw
                case rel=>exact ⟨i + 1,by go_num,by omega,by rw [HSN.out]; exact ho7,hB7⟩
                case measure=>first | (simp [RowKit.intOf]; omega) | simp [RowKit.intOf]
        · have b1 : (i : Int)≤(nR : Int):=by omega
          have b2 : ((i : Int) == (pk : Int)) = false:=by simp; omega
          have HLEN : Hid ((insU R pk rs i).length≤1048832):=by have:=insU_len R pk rs i; have:=HRL.out; exact (by omega : (insU R pk rs i).length≤1048832)
          go_wp2_with fail
          go_loopw [8,13] (fun v vk W=>vk = .int .i64 0∧OwnF cellV 2 63 W w2.heap.size v (insU R pk rs i)∧Below w2.heap.size w2 W) (fun _ _ _=>0)
          case atStart=>exact ⟨rfl,ho,hB⟩
          case round =>
            clear ho hB p3
            obtain ⟨rfl,ho,hB⟩:=hrel
            have p3:=HAT.out _ hB
            by_cases hi3 : i < nR
            · have b3 : (i : Int) < (nR : Int):=by omega
              obtain ⟨g,off,x,rfl,hg,hx,hc⟩:=HR.out.at i (by omega)
              obtain ⟨xr,xh⟩:=x
              have k0 : wr.cell? ⟨g,off + i * 2,none⟩ = some (.int .i32 xr):=(hB.cell (p:=⟨g,off + i * 2 + 0,none⟩) hg).trans (hc 0 _ rfl)
              have k1 : wr.cell? ⟨g,off + i * 2 + 1,none⟩ = some (.int .i64 xh):=(hB.cell (p:=⟨g,off + i * 2 + 1,none⟩) hg).trans (hc 1 _ rfl)
              have HSN : Hid (insU R pk rs i ++ [(xr,xh)] = insU R pk rs (i + 1)):=(by rw [insU_gt (by omega)]; exact insU_high (by omega) hx)
              clear hc hx
              have hBs:=hB.size
              have hll : (insU R pk rs i).length≤1048832:=by have:=HLEN.out; omega
              generalize hacc : (insU R pk rs i) = acc at *
              have HACC : Hid ((insU R pk rs i) = acc):=hacc
              clear hacc
              obtain ⟨av,cv,rfl⟩:=ho.shape
              obtain ⟨g7,cap7,w7,hr7,ho7,hb7,_,_⟩:=appendF_one kindC layC ho hBs (xr,xh) #[.int .i32 xr,.int .i64 xh] rfl 63 (by omega) (by omega) 29
              have hB7:=hB.trans hb7
              go_wp2_with (at_builtin; refine wpList_append_hr rfl _ _ 29 rfl _ _ rfl rfl hr7 ?_)
              go_roundw
              case rel=>exact ⟨i + 1,by go_num,by omega,by rw [← HSN.out]; exact ho7,hB7⟩
              case measure=>first | (simp [RowKit.intOf]; omega) | simp [RowKit.intOf]
            · obtain rfl : i = nR:=by omega
              have b3 : ¬ (i : Int) < (i : Int):=by omega
              have b33 : decide ((i : Int) < (i : Int)) = false:=decide_eq_false b3
              have ho7:=ho
              have hB7:=hB
              go_wp2_with fail
              go_roundw
              case rel=>exact ⟨i + 1,by go_num,by omega,by rw [← insU_end' (by have:=HRL.out; omega) ⟨HRL.out,by omega⟩]; exact ho7,hB7⟩
              case measure=>first | (simp [RowKit.intOf]; omega) | simp [RowKit.intOf]
    · obtain rfl : i = nR + 1:=by omega
      have b1 : ¬ ((nR + 1 : Nat) : Int)≤(nR : Int):=by omega
      have b11 : decide (((nR + 1 : Nat) : Int)≤(nR : Int)) = false:=decide_eq_false b1
      have HO : Hid (OwnF cellV 2 63 wr w2.heap.size _ (insU R pk rs (nR + 1))):=ho
      clear ho
      go_wp2_with fail
      refine bodyPost_ret (results_tmp2 rfl _ _ _) rfl ?_
      have ho:=HO.out
      rw [← HRL.out,insU_all (by rw [HRL.out]; exact hpk)] at ho
      exact ⟨_,rfl,ho.mono hs2,HB2.out.trans (hB.mono hs2)⟩
end Go.Proofs.YtijpfbcippijoaaGreatDoor
