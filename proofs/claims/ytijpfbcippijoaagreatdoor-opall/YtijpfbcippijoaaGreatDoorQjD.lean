import Derived.Test.YtijpfbcippijoaaGreatDoorQjAC
import Derived.Test.YtijpfbcippijoaaGreatDoorGr27
import Derived.Test.YtijpfbcippijoaaGreatDoorQcAB
import Derived.Test.YtijpfbcippijoaaGreatDoorGr21
namespace Go.Proofs.YtijpfbcippijoaaGreatDoor
open Go.RowKit Go.Lib
set_option maxRecDepth 100000
set_option maxHeartbeats 2000000 in
theorem sameRuns_any {w : World} {a b : Option Addr} {n m capa capb : Nat} {L : List GRun} (h : Rw runV 2 w a n capa L) (g : Rw runV 2 w b m capb L) (hm : n≤1048576) :
    Calls Tryz.prog 14 #[.slice a n capa,.slice b m capb] w fun e w'=>e = .returned (.bool true)∧Below w.heap.size w w':=by
  have hn : m = n:=by rw [← g.len,h.len]
  subst hn
  have q1 : ((m : Int) != (m : Int)) = false:=by simp
  go_enter Tryz.func14,Tryz.ntmps14
  go_wp2_with fail
  go_loopw [5] (fun vi wr=>∃ i : Nat,i≤m∧vi = .int .i64 (i : Int)∧Below w.heap.size w wr) (fun i _=>m - (RowKit.intOf i).toNat)
  case atStart=>exact ⟨0,Nat.zero_le _,rfl,Below.refl _ _⟩
  case round =>
    obtain ⟨i,hi,rfl,hB⟩:=hrel
    by_cases hlt : i < m
    · obtain ⟨ga,oa,x,rfl,hga,hx,hc⟩:=(h.below hB).at i hlt
      obtain ⟨gb,ob,y,rfl,hgb,hy,hd⟩:=(g.below hB).at i hlt
      rw [hx] at hy
      cases hy
      have c0:=hc 0 _ rfl
      have c1:=hc 1 _ rfl
      have e0:=hd 0 _ rfl
      have e1:=hd 1 _ rfl
      simp only [Nat.add_zero] at c0 e0
      have d1 : decide ((i : Int) < (m : Int)) = true:=decide_eq_true (by omega)
      clear hc hd hx
      go_wp2_with fail
      go_quiet (fail)
      have hB2:=below_drewN hB nq
      generalize wr.drewN nq = wn at *
      go_wp2_with fail
      exact ⟨⟨i + 1,by omega,by simp,hB2⟩,by simp [RowKit.intOf]; omega⟩
    · have hd : decide ((i : Int) < (m : Int)) = false:=decide_eq_false (by omega)
      go_wp2_with fail
      go_ret
      exact ⟨rfl,hB⟩
structure RowIn (R : List (Int × Int)) : Prop where
  ok : ∀ c ∈ R,okR c.1
  cnt : ∀ c ∈ R,0≤c.2∧c.2≤1048576
  len : R.length≤1048576
def ApB (w2 : World) (q : Nat) (o : OpV) (R : List (Int × Int)) (X : World) (a1 : Option Addr) (m cap1 : Nat) (R' : List (Int × Int)) (C : Int) : Prop :=
  Calls Tryz.prog 11 #[.pointer (some ⟨q,0,none⟩),opVal o (.slice a1 m cap1)] X (fun e w'=>e = .returned (.int .i64 C)∧Holds w2 q R' w'∧Upd q X w')∧RowIn R' ∧
  ∀ (X5 : World) (aR : Option Addr) (nR cR : Nat) (a : Option Addr) (cap : Nat),Rw cellV 2 X5 aR nR cR R→Sp.Rng X5 a m cap o.l→Calls Tryz.prog 12 #[.slice aR nR cR,opVal o (.slice a m cap)] X5 fun e w'=>∃ a' n' c',e = .returned (.tuple #[.slice a' n' c',.int .i64 C])∧Rw cellV 2 w' a' n' c' R'∧Below X5.heap.size X5 w'
theorem apply_both {w2 : World} {q : Nat} {R : List (Int × Int)} {X : World} (h : Holds w2 q R X) (hq : w2.heap.size≤q) (hBar : Bar w2) (hR : RowIn R) {c n k p : Int} {s : ByteArray} {l : List (Int × Int)} {tc tn : Int} {on : Bool} {a1 : Option Addr} {m cap1 : Nat} (hl : Sp.Rng X a1 m cap1 l) (hs : s.size≤2097152) : ∃ R' C,ApB w2 q ⟨c,n,k,p,s,l,tc,tn,on⟩ R X a1 m cap1 R' C:=by
  have hs2 : s.size≤9223372036854775807:=by omega
  have hlm:=hl.len
  by_cases hC : opCheck ⟨c,n,k,p,s,l,tc,tn,on⟩ (R.length : Int) = 0
  · have hkd:=(opCheck_zero hC).2.2.1
    have hkd' : k = 1 ∨ k = 2 ∨ k = 3 ∨ k = 4:=by
      simp only at hkd
      omega
    rcases hkd' with rfl | rfl | rfl | rfl
    · obtain ⟨pk,rs,e1,e2,e3,e4,e5,e6⟩:=ck_ins_of hC rfl
      simp only at e1 e3
      subst e1
      refine ⟨putL R pk rs 0,0,apply_insAny h hq hBar hl hC e2 e3 e4 e5 e6,⟨putL_ok hR.ok e3.ok,?_,by rw [putL_len]; omega⟩,fun X5 aR nR cR a cap hRw hrg=>?_⟩
      · intro x hx
        unfold putL at hx
        rcases List.mem_append.1 hx with hx | hx
        · rcases List.mem_append.1 hx with hx | hx
          · exact hR.cnt x (List.mem_of_mem_take hx)
          · obtain ⟨r,_,rfl⟩:=List.mem_map.1 hx
            exact ⟨Int.le_refl _,by simp only; omega⟩
        · exact hR.cnt x (List.mem_of_mem_drop hx)
      · have hln:=hRw.len
        refine (gApply_ins hRw hrg hs (by omega) e3 e4 e5 (by have:=hR.len; omega) (by rw [← hln]; exact hC)).mono ?_
        rintro e w' ⟨v,rfl,hO,hb⟩
        obtain ⟨a',c',rfl⟩:=hO.shape
        exact ⟨a',_,c',rfl,hO.rw_ layC,hb⟩
    · obtain ⟨_,e2,_,e4⟩:=ck_rng_of hC (.inl rfl)
      simp only at e2 e4
      have hm9 : m≤1000000000:=by omega
      by_cases hin : ∀ c ∈ bmp l (1) 0 R,0≤c.2∧c.2≤1048576
      · refine ⟨bmp l 1 0 R,0,apply_aboveOk h hq hBar hl hs2 hC hin,⟨bmp_okR hR.ok,hin,by rw [bmp_len]; exact hR.len⟩,fun X5 aR nR cR a cap hRw hrg=>?_⟩
        have hln:=hRw.len
        refine (gApply_2 hRw hrg hs e2 hR.cnt (by have:=hR.len; omega) hm9 (by rw [← hln]; exact hC)).mono ?_
        rintro e w' ⟨v,x,rfl,hG,hb⟩
        rcases hG with ⟨rfl,hO,_⟩ | ⟨_,_,y,hy,hny⟩
        · obtain ⟨a',c',rfl⟩:=hO.shape
          exact ⟨a',_,c',rfl,hO.rw_ layC,hb⟩
        · exact absurd (hin y hy) hny
      · have hout : ∃ c ∈ bmp l (1) 0 R,1048576 < c.2:=by
          simp only [Classical.not_forall] at hin
          obtain ⟨y,hy,hny⟩:=hin
          obtain ⟨x,hx,e⟩:=bmp_mem hy
          have:=hR.cnt x hx
          refine ⟨y,hy,?_⟩
          rcases e with rfl | rfl
          · omega
          · simp only at hny ⊢; omega
        refine ⟨R,31,(apply_above h hBar hl hs2 hC hout).mono (fun e w' ⟨e1,e2⟩=>⟨e1,h.still e2,Upd.ofBelow e2⟩),hR,fun X5 aR nR cR a cap hRw hrg=>?_⟩
        have hln:=hRw.len
        refine (gApply_2 hRw hrg hs e2 hR.cnt (by have:=hR.len; omega) hm9 (by rw [← hln]; exact hC)).mono ?_
        rintro e w' ⟨v,x,rfl,hG,hb⟩
        rcases hG with ⟨_,_,hall⟩ | ⟨rfl,rfl,_⟩
        · exact absurd hall hin
        · exact ⟨_,_,_,rfl,hRw.below hb,hb⟩
    · obtain ⟨_,e2,_,e4⟩:=ck_rng_of hC (.inr rfl)
      simp only at e2 e4
      have hm9 : m≤1000000000:=by omega
      by_cases hin : ∀ c ∈ bmp l (-1) 0 R,0≤c.2∧c.2≤1048576
      · refine ⟨bmp l (-1) 0 R,0,apply_belowOk h hq hBar hl hs2 hC hin,⟨bmp_okR hR.ok,hin,by rw [bmp_len]; exact hR.len⟩,fun X5 aR nR cR a cap hRw hrg=>?_⟩
        have hln:=hRw.len
        refine (gApply_3 hRw hrg hs e2 hR.cnt (by have:=hR.len; omega) hm9 (by rw [← hln]; exact hC)).mono ?_
        rintro e w' ⟨v,x,rfl,hG,hb⟩
        rcases hG with ⟨rfl,hO,_⟩ | ⟨_,_,y,hy,hny⟩
        · obtain ⟨a',c',rfl⟩:=hO.shape
          exact ⟨a',_,c',rfl,hO.rw_ layC,hb⟩
        · exact absurd (hin y hy) hny
      · have hout : ∃ c ∈ bmp l (-1) 0 R,c.2 < 0:=by
          simp only [Classical.not_forall] at hin
          obtain ⟨y,hy,hny⟩:=hin
          obtain ⟨x,hx,e⟩:=bmp_mem hy
          have:=hR.cnt x hx
          refine ⟨y,hy,?_⟩
          rcases e with rfl | rfl
          · omega
          · simp only at hny ⊢; omega
        refine ⟨R,30,(apply_below h hBar hl hs2 hC hout).mono (fun e w' ⟨e1,e2⟩=>⟨e1,h.still e2,Upd.ofBelow e2⟩),hR,fun X5 aR nR cR a cap hRw hrg=>?_⟩
        have hln:=hRw.len
        refine (gApply_3 hRw hrg hs e2 hR.cnt (by have:=hR.len; omega) hm9 (by rw [← hln]; exact hC)).mono ?_
        rintro e w' ⟨v,x,rfl,hG,hb⟩
        rcases hG with ⟨_,_,hall⟩ | ⟨rfl,rfl,_⟩
        · exact absurd hall hin
        · exact ⟨_,_,_,rfl,hRw.below hb,hb⟩
    · refine ⟨R,40,(apply_status h hl hs2 hBar hC).mono (fun e w' ⟨e1,e2⟩=>⟨e1,h.still e2,Upd.ofBelow e2⟩),hR,fun X5 aR nR cR a cap hRw hrg=>?_⟩
      have hln:=hRw.len
      refine (gApply_status hrg hs (by rw [← hln]; exact hC)).mono ?_
      rintro e w' ⟨rfl,hb⟩
      exact ⟨_,_,_,rfl,hRw.below hb,hb⟩
  · refine ⟨R,_,(apply_no h hl hs2 hBar rfl hC).mono (fun e w' ⟨e1,e2⟩=>⟨e1,h.still e2,Upd.ofBelow e2⟩),hR,fun X5 aR nR cR a cap hRw hrg=>?_⟩
    have hln:=hRw.len
    refine (gApply_no (o:=⟨c,n,k,p,s,l,tc,tn,on⟩) hrg hs (by rw [← hln]) hC).mono ?_
    rintro e w' ⟨rfl,hb⟩
    exact ⟨_,_,_,rfl,hRw.below hb,hb⟩
end Go.Proofs.YtijpfbcippijoaaGreatDoor
