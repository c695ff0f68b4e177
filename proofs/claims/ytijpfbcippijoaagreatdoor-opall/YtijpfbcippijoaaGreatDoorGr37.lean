import Derived.Test.YtijpfbcippijoaaGreatDoorGr21
import Derived.Test.YtijpfbcippijoaaGreatDoorGr41
import Derived.Test.YtijpfbcippijoaaGreatDoorGr36
import Derived.Test.YtijpfbcippijoaaGreatDoorOpLR
import Derived.Deep.Cut
import Derived.Deep.MidRow
import Derived.Deep.WholeRow
import Derived.Test.YtijpfbcippijoaaGreatDoorQcAB
import Derived.Test.YtijpfbcippijoaaGreatDoorGr33
namespace Go.Proofs.YtijpfbcippijoaaGreatDoor
open Go.RowKit Go.Lib
set_option maxRecDepth 100000
theorem rw_front {α : Type} {f : α→List Value} {k : Nat} {w : World} {a : Option Addr} {n m cap : Nat} {l r : List α} (h : Rw f k w a n cap (l ++ r)) (hl : l.length = m) : Rw f k w a m cap l:=by
  have hn:=h.len
  simp only [List.length_append] at hn
  refine ⟨hl,⟨by have:=h.room.1; omega,h.room.2⟩,fun hm=>?_⟩
  obtain ⟨g,off,e,hg,hc⟩:=h.cells (by omega)
  exact ⟨g,off,e,hg,fun j x hj=>hc j x (by rw [List.getElem?_append_left (List.getElem?_eq_some_iff.1 hj).1]; exact hj)⟩
end Go.Proofs.YtijpfbcippijoaaGreatDoor

namespace Go.Proofs.YtijpfbcippijoaaGreatDoor
open Go.RowKit Go.Lib
set_option maxRecDepth 100000
theorem inL_yes {l : List (Int × Int)} {i : Int} {x : Int × Int} (hx : x ∈ l) (h1 : x.1≤i) (h2 : i < x.2) : inL l i = true:=by
  unfold inL
  rw [List.any_eq_true]
  exact ⟨x,hx,decide_eq_true ⟨h1,h2⟩⟩
theorem inL_no {l : List (Int × Int)} (hs : Srt l) {m : Nat} {i : Int} (h1 : ∀ (j : Nat) x,j < m→l[j]? = some x→x.2≤i) (h2 : ∀ x,l[m]? = some x→i < x.1) : inL l i = false:=by
  cases hb : inL l i with
  | false=>rfl
  | true =>
    exfalso
    unfold inL at hb
    rw [List.any_eq_true] at hb
    obtain ⟨y,hy,hd⟩:=hb
    have hd2:=of_decide_eq_true hd
    obtain ⟨j,hj⟩:=List.getElem?_of_mem hy
    rcases Nat.lt_trichotomy j m with h | h | h
    · have:=h1 j y h hj; omega
    · subst h; have:=h2 y hj; omega
    · have hm : m < l.length:=by have:=(List.getElem?_eq_some_iff.1 hj).1; omega
      have hx : l[m]? = some l[m]:=List.getElem?_eq_getElem hm
      have e1:=h2 _ hx
      have e2:=hs.apart m j _ _ h hx hj
      have e3:=hs.some_ _ (List.getElem_mem hm)
      omega
end Go.Proofs.YtijpfbcippijoaaGreatDoor

namespace Go.Proofs.YtijpfbcippijoaaGreatDoor
open Go.RowKit Go.Lib
set_option maxRecDepth 100000
theorem Tr.Wf.all {t : Tr} (h : t.Wf) : ∀ c ∈ t.row,t.sm.least≤c.2∧c.2≤t.sm.most:=by
  induction t with
  | nil=>exact h.elim
  | leaf rs hid st =>
    intro c hc
    obtain ⟨x,_,rfl⟩:=List.mem_map.1 hc
    simp [Tr.sm,pieceSm]
  | node l r st ihl ihr =>
    intro c hc
    simp only [Tr.row,upL] at hc
    obtain ⟨x,hx,rfl⟩:=List.mem_map.1 hc
    simp only [Tr.sm,Sm.both,Sm.raised]
    rcases List.mem_append.1 hx with hx | hx
    · have:=ihl h.1 x hx
      omega
    · have:=ihr h.2 x hx
      omega
theorem Tr.Can.all {t : Tr} (h : t.Can) {c : Int × Int} (hc : c ∈ t.row) : t.sm.least≤c.2∧c.2≤t.sm.most∧(∃ b ∈ t.row,b.2 = t.sm.least)∧∃ b ∈ t.row,b.2 = t.sm.most:=by
  rcases h with rfl | hf
  · simp [Tr.row] at hc
  · have h1:=hf.wf.all c hc
    exact ⟨h1.1,h1.2,hf.wf.smIn.least,hf.wf.smIn.most⟩
set_option maxHeartbeats 4000000 in
theorem bump_above {w : World} {q : Nat} {t : Tr} (h : RopeAt w q t) (hR : t.Rp) {a : Option Addr} {m cap : Nat} {l : List (Int × Int)} (hl : Rw pieceV 2 w a m cap l) (hm : m≤32768) (hs : Srt l) (hb : ∀ x ∈ l,0≤x.1∧x.2≤(t.row.length : Int)) (hout : ∃ c ∈ bmp l (1) 0 t.row,1048576 < c.2) :
    Calls Tryz.prog 26 #[.pointer (some ⟨q,0,none⟩),.slice a m cap,.int .i64 (1)] w fun e w'=>e = .returned (.int .i64 31)∧Below w.heap.size w w':=by
  have hlen:=hR.len
  have hll:=hl.len
  have HCK:=Sp.check_any hl.rng
  rw [check_srt hs (fun x hx=>by have:=hb x hx; omega) (by omega)] at HCK
  have HT : Hid (∀ W,Below w.heap.size w W→Calls Tryz.prog 24 #[.pointer (some ⟨q,0,none⟩)] W fun e w'=>e = .returned (.int .i64 (t.row.length : Int))∧w' = W):=fun W hW=>ropeTotal_any (h.below hW)
  obtain ⟨g,hq,hA⟩:=h
  have hql:=(Array.getElem?_eq_some_iff.1 hq).1
  have c0 : w.cell? ⟨q,0,none⟩ = some (.pointer (some ⟨g,0,none⟩)):=by simp [World.cell?,hq]
  have HBP : Hid (∀ W,Below w.heap.size w W→Calls Tryz.prog 60 #[.pointer (some ⟨g,0,none⟩),.int .i64 0,.slice a m cap,.int .i64 (1)] W fun e w'=>∃ g' t',e = .returned (.pointer (some ⟨g',0,none⟩))∧At w' t' g'∧t'.Can∧Pcs t'.lv∧t'.row = bmp l (1) 0 t.row∧Below W.heap.size W w'):=fun W hW=>bumped_root (hA.below hW) hR (hl.below hW) hm hs hb (1) (by omega)
  have HL : Hid (Rw pieceV 2 w a m cap l):=hl
  have HB : Hid (∀ x ∈ l,0≤x.1∧x.2≤(t.row.length : Int)):=hb
  have h0 : 0 < m:=by
    rcases Nat.eq_zero_or_pos m with h0 | h0
    · exfalso
      obtain rfl : l = []:=List.length_eq_zero_iff.1 (hll.trans h0)
      obtain ⟨c,hc,hx⟩:=hout
      obtain ⟨j,hj⟩:=List.getElem?_of_mem hc
      rw [bmp_get] at hj
      obtain ⟨y,hy,rfl⟩:=Option.map_eq_some_iff.1 hj
      have hy2:=List.mem_of_getElem? hy
      have h1:=hR.lo y hy2
      have h2:=hR.hi y hy2
      rw [if_neg (by simp [inL])] at hx
      omega
    · exact h0
  have HFX : Hid (∀ t4 : Tr,t4.Can→t4.row = bmp l (1) 0 t.row→0≤t4.sm.least∧1048576 < t4.sm.most):=fun t4 hC hr=>by
    obtain ⟨c,hc,hx⟩:=hout
    obtain ⟨h1,h2,⟨b,hb1,hb2⟩,_⟩:=hC.all (by rw [hr]; exact hc)
    rw [hr] at hb1
    obtain ⟨y,hy,e⟩:=bmp_mem hb1
    have hy1:=hR.lo y hy
    rcases e with rfl | rfl
    · omega
    · simp only at hb2
      omega
  clear hl hb hq hs hout
  go_enter Tryz.func26,Tryz.ntmps26
  go_wp2_with fail
  refine HCK.mono ?_
  rintro e w1 ⟨rfl,hb1⟩
  clear HCK
  obtain ⟨M,rfl⟩ : ∃ M,m = M + 1:=⟨m - 1,by omega⟩
  obtain ⟨ga,off,x,rfl,hga,hx,hc⟩:=HL.out.at M (by omega)
  have HX : Hid (w.cell? ⟨ga,off + M * 2 + 1,none⟩ = some (.int .i64 x.2)):=hc 1 _ rfl
  have c1 : w1.cell? ⟨ga,off + M * 2 + 1,none⟩ = some (.int .i64 x.2):=(hb1.cell (p:=⟨ga,off + M * 2 + 1,none⟩) hga).trans HX.out
  have hx2 : ¬ (t.row.length : Int) < x.2:=by have:=(HB.out x (List.mem_of_getElem? hx)).2; omega
  have b2 : decide ((t.row.length : Int) < x.2) = false:=decide_eq_false hx2
  have u2 : IntKind.i64.wrap (M : Int) = (M : Int):=IntWalk.i64_in _ (by omega)
  have u3 : (M : Int) < (M : Int) + 1:=by omega
  clear hc hx hx2
  go_wp2_with fail
  refine wp_region_held_drew (S:=(fun W=>W.cell? ⟨ga,off + M * 2 + 1,none⟩ = some (.int .i64 x.2))) (by kernel_rfl) ?hS1 (fun hHeld=>?rest1)
  case hS1=>(first | exact c1 | exact c2)
  refine takeD (i:=0) (d:=some 24) (v:=?vT2) rfl rfl (by kernel_rfl) (by kernel_rfl) (by kernel_rfl) (fun _ _ _ h=>h) (Or.inl ⟨by rfl,?hyT2⟩) (by assumption) ?rstT2
  case hyT2=>(intro w hSw; (try dsimp only at hSw); go_simp; (try with_reducible rfl))
  try simp only [Act.put,List.setIfInBounds_toArray,List.set_cons_zero,List.set_cons_succ]
  refine takeD (i:=1) (d:=some 25) (v:=?vT3) rfl rfl (by kernel_rfl) (by kernel_rfl) (by kernel_rfl) (fun _ _ _ h=>h) (Or.inl ⟨by rfl,?hyT3⟩) (by assumption) ?rstT3
  case hyT3=>(intro w hSw; (try dsimp only at hSw); go_simp; (try with_reducible rfl))
  try simp only [Act.put,List.setIfInBounds_toArray,List.set_cons_zero,List.set_cons_succ]
  refine takeD (i:=2) (d:=some 26) (v:=?vT4) rfl rfl (by kernel_rfl) (by kernel_rfl) (by kernel_rfl) (fun _ _ _ h=>h) (Or.inl ⟨by rfl,?hyT4⟩) (by assumption) ?rstT4
  case hyT4=>(intro w hSw; (try dsimp only at hSw); go_simp; (try with_reducible rfl))
  try simp only [Act.put,List.setIfInBounds_toArray,List.set_cons_zero,List.set_cons_succ]
  refine takeD (i:=3) (d:=some 27) (v:=?vT5) rfl rfl (by kernel_rfl) (by kernel_rfl) (by kernel_rfl) (fun _ _ _ h=>h) (Or.inl ⟨by rfl,?hyT5⟩) (by assumption) ?rstT5
  case hyT5=>(intro w hSw; (try dsimp only at hSw); go_simp; (try with_reducible rfl))
  try simp only [Act.put,List.setIfInBounds_toArray,List.set_cons_zero,List.set_cons_succ]
  refine takeD (i:=4) (d:=some 28) (v:=?vT6) rfl rfl (by kernel_rfl) (by kernel_rfl) (by kernel_rfl) (fun _ _ _ h=>h) (Or.inl ⟨by rfl,?hyT6⟩) (by assumption) ?rstT6
  case hyT6=>(intro w hSw; (try dsimp only at hSw); go_simp; (try with_reducible rfl))
  try simp only [Act.put,List.setIfInBounds_toArray,List.set_cons_zero,List.set_cons_succ]
  refine takeD (i:=5) (d:=some 29) (v:=?vT7) rfl rfl (by kernel_rfl) (by kernel_rfl) (by kernel_rfl) (fun _ _ _ h=>h) (Or.inl ⟨by rfl,?hyT7⟩) (by assumption) ?rstT7
  case hyT7=>(intro w hSw; (try dsimp only at hSw); go_simp; (try with_reducible rfl))
  try simp only [Act.put,List.setIfInBounds_toArray,List.set_cons_zero,List.set_cons_succ]
  refine takeD (i:=6) (d:=some 30) (v:=?vT8) rfl rfl (by kernel_rfl) (by kernel_rfl) (by kernel_rfl) (fun _ _ _ h=>h) (Or.inl ⟨by rfl,?hyT8⟩) (by assumption) ?rstT8
  case hyT8=>(intro w hSw; (try dsimp only at hSw); go_simp; (try with_reducible rfl))
  try simp only [Act.put,List.setIfInBounds_toArray,List.set_cons_zero,List.set_cons_succ]
  refine takeD (i:=7) (d:=some 31) (v:=?vT9) rfl rfl (by kernel_rfl) (by kernel_rfl) (by kernel_rfl) (fun _ _ _ h=>h) (Or.inl ⟨by rfl,?hyT9⟩) (by assumption) ?rstT9
  case hyT9=>(intro w hSw; (try dsimp only at hSw); go_simp; (try with_reducible rfl))
  try simp only [Act.put,List.setIfInBounds_toArray,List.set_cons_zero,List.set_cons_succ]
  refine takeD (i:=8) (d:=some 32) (v:=?vT10) rfl rfl (by kernel_rfl) (by kernel_rfl) (by kernel_rfl) (fun _ _ _ h=>h) (Or.inl ⟨by rfl,?hyT10⟩) (by assumption) ?rstT10
  case hyT10=>(intro w hSw; (try dsimp only at hSw); go_simp; (try with_reducible rfl))
  try simp only [Act.put,List.setIfInBounds_toArray,List.set_cons_zero,List.set_cons_succ]
  refine takeD (i:=9) (d:=some 33) (v:=?vT11) rfl rfl (by kernel_rfl) (by kernel_rfl) (by kernel_rfl) (fun _ _ _ h=>h) (Or.inl ⟨by rfl,?hyT11⟩) (by assumption) ?rstT11
  case hyT11=>(intro w hSw; (try dsimp only at hSw); go_simp; (try with_reducible rfl))
  try simp only [Act.put,List.setIfInBounds_toArray,List.set_cons_zero,List.set_cons_succ]
  refine takeD (i:=10) (d:=some 34) (v:=?vT12) rfl rfl (by kernel_rfl) (by kernel_rfl) (by kernel_rfl) (fun _ _ _ h=>h) (Or.inl ⟨by rfl,?hyT12⟩) (by assumption) ?rstT12
  case hyT12=>(intro w hSw; (try dsimp only at hSw); go_simp; (try with_reducible rfl))
  try simp only [Act.put,List.setIfInBounds_toArray,List.set_cons_zero,List.set_cons_succ]
  refine takeD (i:=11) (d:=some 35) (v:=?vT13) rfl rfl (by kernel_rfl) (by kernel_rfl) (by kernel_rfl) (fun _ _ _ h=>h) (Or.inl ⟨by rfl,?hyT13⟩) (by assumption) ?rstT13
  case hyT13=>(intro w hSw; (try dsimp only at hSw); go_simp; (try with_reducible rfl))
  try simp only [Act.put,List.setIfInBounds_toArray,List.set_cons_zero,List.set_cons_succ]
  refine wpAnyH_ready (rs:=[12]) (by kernel_rfl) (by simp) ?_
  refine AllReadyH.cons rfl (fun K hK=>?_) AllReadyH.nil
  go_simp
  refine (HT.out _ ?_).mono ?_
  · first | exact hb1 | exact hb1.drew
  rintro e2 w2 ⟨rfl,hw2⟩
  have hb2 : Below w.heap.size w w2:=by rw [hw2]; first | exact hb1 | exact hb1.drew
  have c2 : w2.cell? ⟨ga,off + M * 2 + 1,none⟩ = some (.int .i64 x.2):=(hb2.cell (p:=⟨ga,off + M * 2 + 1,none⟩) hga).trans (HX.out)
  clear hb1 hw2 c1
  have hb1:=hb2
  clear hHeld
  refine hK.out _ _ ?hS14 (fun hHeld=>?rest14)
  case hS14=>(first | exact c1 | exact c2)
  clear hK K
  try simp only [Act.put,List.setIfInBounds_toArray,List.set_cons_zero,List.set_cons_succ]
  refine takeD (i:=13) (d:=some 37) (v:=?vT15) rfl rfl (by kernel_rfl) (by kernel_rfl) (by kernel_rfl) (fun _ _ _ h=>h) (Or.inl ⟨by rfl,?hyT15⟩) (by assumption) ?rstT15
  case hyT15=>(intro w hSw; (try dsimp only at hSw); go_simp; (try with_reducible rfl))
  try simp only [Act.put,List.setIfInBounds_toArray,List.set_cons_zero,List.set_cons_succ]
  refine takeD (i:=14) (d:=some 38) (v:=?vT16) rfl rfl (by kernel_rfl) (by kernel_rfl) (by kernel_rfl) (fun _ _ _ h=>h) (Or.inl ⟨by rfl,?hyT16⟩) (by assumption) ?rstT16
  case hyT16=>(intro w hSw; (try dsimp only at hSw); go_simp; (try with_reducible rfl))
  try simp only [Act.put,List.setIfInBounds_toArray,List.set_cons_zero,List.set_cons_succ]
  refine wpAnyH_done (by kernel_rfl) ?_ _
  have hbd : Below w.heap.size w w2:=by first | exact hb1 | exact hb1.drew
  have c3:=(hbd.cell (p:=⟨q,0,none⟩) hql).trans c0
  clear c0
  go_wp2_with fail
  refine (HBP.out _ hbd).mono ?_
  rintro e w4 ⟨g4,t4,rfl,hA4,hC4,hP4,hr4,hb4⟩
  have hB4:=hbd.trans (hb4.mono hbd.size)
  have hbo:=HFX.out t4 hC4 hr4
  have hz0 : decide (t4.sm.least < 0) = false:=decide_eq_false (by omega)
  have hz0' : ¬ t4.sm.least < 0:=by omega
  have hz1 : decide (1048576 < t4.sm.most) = true:=decide_eq_true (by omega)
  have hz1' : 1048576 < t4.sm.most:=by omega
  obtain ⟨z0,z1,z2,z3,z4,z5,z6,z7,z8,z9⟩:=hA4.ten
  clear hr4 hbo c3 hA4
  go_wp2_with fail
  go_ret
  exact ⟨rfl,hB4⟩
set_option maxHeartbeats 4000000 in
theorem bump_below {w : World} {q : Nat} {t : Tr} (h : RopeAt w q t) (hR : t.Rp) {a : Option Addr} {m cap : Nat} {l : List (Int × Int)} (hl : Rw pieceV 2 w a m cap l) (hm : m≤32768) (hs : Srt l) (hb : ∀ x ∈ l,0≤x.1∧x.2≤(t.row.length : Int)) (hout : ∃ c ∈ bmp l (-1) 0 t.row,c.2 < 0) :
    Calls Tryz.prog 26 #[.pointer (some ⟨q,0,none⟩),.slice a m cap,.int .i64 (-1)] w fun e w'=>e = .returned (.int .i64 30)∧Below w.heap.size w w':=by
  have hlen:=hR.len
  have hll:=hl.len
  have HCK:=Sp.check_any hl.rng
  rw [check_srt hs (fun x hx=>by have:=hb x hx; omega) (by omega)] at HCK
  have HT : Hid (∀ W,Below w.heap.size w W→Calls Tryz.prog 24 #[.pointer (some ⟨q,0,none⟩)] W fun e w'=>e = .returned (.int .i64 (t.row.length : Int))∧w' = W):=fun W hW=>ropeTotal_any (h.below hW)
  obtain ⟨g,hq,hA⟩:=h
  have hql:=(Array.getElem?_eq_some_iff.1 hq).1
  have c0 : w.cell? ⟨q,0,none⟩ = some (.pointer (some ⟨g,0,none⟩)):=by simp [World.cell?,hq]
  have HBP : Hid (∀ W,Below w.heap.size w W→Calls Tryz.prog 60 #[.pointer (some ⟨g,0,none⟩),.int .i64 0,.slice a m cap,.int .i64 (-1)] W fun e w'=>∃ g' t',e = .returned (.pointer (some ⟨g',0,none⟩))∧At w' t' g'∧t'.Can∧Pcs t'.lv∧t'.row = bmp l (-1) 0 t.row∧Below W.heap.size W w'):=fun W hW=>bumped_root (hA.below hW) hR (hl.below hW) hm hs hb (-1) (by omega)
  have HL : Hid (Rw pieceV 2 w a m cap l):=hl
  have HB : Hid (∀ x ∈ l,0≤x.1∧x.2≤(t.row.length : Int)):=hb
  have h0 : 0 < m:=by
    rcases Nat.eq_zero_or_pos m with h0 | h0
    · exfalso
      obtain rfl : l = []:=List.length_eq_zero_iff.1 (hll.trans h0)
      obtain ⟨c,hc,hx⟩:=hout
      obtain ⟨j,hj⟩:=List.getElem?_of_mem hc
      rw [bmp_get] at hj
      obtain ⟨y,hy,rfl⟩:=Option.map_eq_some_iff.1 hj
      have hy2:=List.mem_of_getElem? hy
      have h1:=hR.lo y hy2
      have h2:=hR.hi y hy2
      rw [if_neg (by simp [inL])] at hx
      omega
    · exact h0
  have HFX : Hid (∀ t4 : Tr,t4.Can→t4.row = bmp l (-1) 0 t.row→t4.sm.least < 0):=fun t4 hC hr=>by
    obtain ⟨c,hc,hx⟩:=hout
    obtain ⟨h1,h2,⟨b,hb1,hb2⟩,_⟩:=hC.all (by rw [hr]; exact hc)
    rw [hr] at hb1
    obtain ⟨y,hy,e⟩:=bmp_mem hb1
    have hy1:=hR.lo y hy
    rcases e with rfl | rfl
    · omega
    · simp only at hb2
      omega
  clear hl hb hq hs hout
  go_enter Tryz.func26,Tryz.ntmps26
  go_wp2_with fail
  refine HCK.mono ?_
  rintro e w1 ⟨rfl,hb1⟩
  clear HCK
  obtain ⟨M,rfl⟩ : ∃ M,m = M + 1:=⟨m - 1,by omega⟩
  obtain ⟨ga,off,x,rfl,hga,hx,hc⟩:=HL.out.at M (by omega)
  have HX : Hid (w.cell? ⟨ga,off + M * 2 + 1,none⟩ = some (.int .i64 x.2)):=hc 1 _ rfl
  have c1 : w1.cell? ⟨ga,off + M * 2 + 1,none⟩ = some (.int .i64 x.2):=(hb1.cell (p:=⟨ga,off + M * 2 + 1,none⟩) hga).trans HX.out
  have hx2 : ¬ (t.row.length : Int) < x.2:=by have:=(HB.out x (List.mem_of_getElem? hx)).2; omega
  have b2 : decide ((t.row.length : Int) < x.2) = false:=decide_eq_false hx2
  have u2 : IntKind.i64.wrap (M : Int) = (M : Int):=IntWalk.i64_in _ (by omega)
  have u3 : (M : Int) < (M : Int) + 1:=by omega
  clear hc hx hx2
  go_wp2_with fail
  refine wp_region_held_drew (S:=(fun W=>W.cell? ⟨ga,off + M * 2 + 1,none⟩ = some (.int .i64 x.2))) (by kernel_rfl) ?hS17 (fun hHeld=>?rest17)
  case hS17=>(first | exact c1 | exact c2)
  refine takeD (i:=0) (d:=some 24) (v:=?vT18) rfl rfl (by kernel_rfl) (by kernel_rfl) (by kernel_rfl) (fun _ _ _ h=>h) (Or.inl ⟨by rfl,?hyT18⟩) (by assumption) ?rstT18
  case hyT18=>(intro w hSw; (try dsimp only at hSw); go_simp; (try with_reducible rfl))
  try simp only [Act.put,List.setIfInBounds_toArray,List.set_cons_zero,List.set_cons_succ]
  refine takeD (i:=1) (d:=some 25) (v:=?vT19) rfl rfl (by kernel_rfl) (by kernel_rfl) (by kernel_rfl) (fun _ _ _ h=>h) (Or.inl ⟨by rfl,?hyT19⟩) (by assumption) ?rstT19
  case hyT19=>(intro w hSw; (try dsimp only at hSw); go_simp; (try with_reducible rfl))
  try simp only [Act.put,List.setIfInBounds_toArray,List.set_cons_zero,List.set_cons_succ]
  refine takeD (i:=2) (d:=some 26) (v:=?vT20) rfl rfl (by kernel_rfl) (by kernel_rfl) (by kernel_rfl) (fun _ _ _ h=>h) (Or.inl ⟨by rfl,?hyT20⟩) (by assumption) ?rstT20
  case hyT20=>(intro w hSw; (try dsimp only at hSw); go_simp; (try with_reducible rfl))
  try simp only [Act.put,List.setIfInBounds_toArray,List.set_cons_zero,List.set_cons_succ]
  refine takeD (i:=3) (d:=some 27) (v:=?vT21) rfl rfl (by kernel_rfl) (by kernel_rfl) (by kernel_rfl) (fun _ _ _ h=>h) (Or.inl ⟨by rfl,?hyT21⟩) (by assumption) ?rstT21
  case hyT21=>(intro w hSw; (try dsimp only at hSw); go_simp; (try with_reducible rfl))
  try simp only [Act.put,List.setIfInBounds_toArray,List.set_cons_zero,List.set_cons_succ]
  refine takeD (i:=4) (d:=some 28) (v:=?vT22) rfl rfl (by kernel_rfl) (by kernel_rfl) (by kernel_rfl) (fun _ _ _ h=>h) (Or.inl ⟨by rfl,?hyT22⟩) (by assumption) ?rstT22
  case hyT22=>(intro w hSw; (try dsimp only at hSw); go_simp; (try with_reducible rfl))
  try simp only [Act.put,List.setIfInBounds_toArray,List.set_cons_zero,List.set_cons_succ]
  refine takeD (i:=5) (d:=some 29) (v:=?vT23) rfl rfl (by kernel_rfl) (by kernel_rfl) (by kernel_rfl) (fun _ _ _ h=>h) (Or.inl ⟨by rfl,?hyT23⟩) (by assumption) ?rstT23
  case hyT23=>(intro w hSw; (try dsimp only at hSw); go_simp; (try with_reducible rfl))
  try simp only [Act.put,List.setIfInBounds_toArray,List.set_cons_zero,List.set_cons_succ]
  refine takeD (i:=6) (d:=some 30) (v:=?vT24) rfl rfl (by kernel_rfl) (by kernel_rfl) (by kernel_rfl) (fun _ _ _ h=>h) (Or.inl ⟨by rfl,?hyT24⟩) (by assumption) ?rstT24
  case hyT24=>(intro w hSw; (try dsimp only at hSw); go_simp; (try with_reducible rfl))
  try simp only [Act.put,List.setIfInBounds_toArray,List.set_cons_zero,List.set_cons_succ]
  refine takeD (i:=7) (d:=some 31) (v:=?vT25) rfl rfl (by kernel_rfl) (by kernel_rfl) (by kernel_rfl) (fun _ _ _ h=>h) (Or.inl ⟨by rfl,?hyT25⟩) (by assumption) ?rstT25
  case hyT25=>(intro w hSw; (try dsimp only at hSw); go_simp; (try with_reducible rfl))
  try simp only [Act.put,List.setIfInBounds_toArray,List.set_cons_zero,List.set_cons_succ]
  refine takeD (i:=8) (d:=some 32) (v:=?vT26) rfl rfl (by kernel_rfl) (by kernel_rfl) (by kernel_rfl) (fun _ _ _ h=>h) (Or.inl ⟨by rfl,?hyT26⟩) (by assumption) ?rstT26
  case hyT26=>(intro w hSw; (try dsimp only at hSw); go_simp; (try with_reducible rfl))
  try simp only [Act.put,List.setIfInBounds_toArray,List.set_cons_zero,List.set_cons_succ]
  refine takeD (i:=9) (d:=some 33) (v:=?vT27) rfl rfl (by kernel_rfl) (by kernel_rfl) (by kernel_rfl) (fun _ _ _ h=>h) (Or.inl ⟨by rfl,?hyT27⟩) (by assumption) ?rstT27
  case hyT27=>(intro w hSw; (try dsimp only at hSw); go_simp; (try with_reducible rfl))
  try simp only [Act.put,List.setIfInBounds_toArray,List.set_cons_zero,List.set_cons_succ]
  refine takeD (i:=10) (d:=some 34) (v:=?vT28) rfl rfl (by kernel_rfl) (by kernel_rfl) (by kernel_rfl) (fun _ _ _ h=>h) (Or.inl ⟨by rfl,?hyT28⟩) (by assumption) ?rstT28
  case hyT28=>(intro w hSw; (try dsimp only at hSw); go_simp; (try with_reducible rfl))
  try simp only [Act.put,List.setIfInBounds_toArray,List.set_cons_zero,List.set_cons_succ]
  refine takeD (i:=11) (d:=some 35) (v:=?vT29) rfl rfl (by kernel_rfl) (by kernel_rfl) (by kernel_rfl) (fun _ _ _ h=>h) (Or.inl ⟨by rfl,?hyT29⟩) (by assumption) ?rstT29
  case hyT29=>(intro w hSw; (try dsimp only at hSw); go_simp; (try with_reducible rfl))
  try simp only [Act.put,List.setIfInBounds_toArray,List.set_cons_zero,List.set_cons_succ]
  refine wpAnyH_ready (rs:=[12]) (by kernel_rfl) (by simp) ?_
  refine AllReadyH.cons rfl (fun K hK=>?_) AllReadyH.nil
  go_simp
  refine (HT.out _ ?_).mono ?_
  · first | exact hb1 | exact hb1.drew
  rintro e2 w2 ⟨rfl,hw2⟩
  have hb2 : Below w.heap.size w w2:=by rw [hw2]; first | exact hb1 | exact hb1.drew
  have c2 : w2.cell? ⟨ga,off + M * 2 + 1,none⟩ = some (.int .i64 x.2):=(hb2.cell (p:=⟨ga,off + M * 2 + 1,none⟩) hga).trans (HX.out)
  clear hb1 hw2 c1
  have hb1:=hb2
  clear hHeld
  refine hK.out _ _ ?hS30 (fun hHeld=>?rest30)
  case hS30=>(first | exact c1 | exact c2)
  clear hK K
  try simp only [Act.put,List.setIfInBounds_toArray,List.set_cons_zero,List.set_cons_succ]
  refine takeD (i:=13) (d:=some 37) (v:=?vT31) rfl rfl (by kernel_rfl) (by kernel_rfl) (by kernel_rfl) (fun _ _ _ h=>h) (Or.inl ⟨by rfl,?hyT31⟩) (by assumption) ?rstT31
  case hyT31=>(intro w hSw; (try dsimp only at hSw); go_simp; (try with_reducible rfl))
  try simp only [Act.put,List.setIfInBounds_toArray,List.set_cons_zero,List.set_cons_succ]
  refine takeD (i:=14) (d:=some 38) (v:=?vT32) rfl rfl (by kernel_rfl) (by kernel_rfl) (by kernel_rfl) (fun _ _ _ h=>h) (Or.inl ⟨by rfl,?hyT32⟩) (by assumption) ?rstT32
  case hyT32=>(intro w hSw; (try dsimp only at hSw); go_simp; (try with_reducible rfl))
  try simp only [Act.put,List.setIfInBounds_toArray,List.set_cons_zero,List.set_cons_succ]
  refine wpAnyH_done (by kernel_rfl) ?_ _
  have hbd : Below w.heap.size w w2:=by first | exact hb1 | exact hb1.drew
  have c3:=(hbd.cell (p:=⟨q,0,none⟩) hql).trans c0
  clear c0
  go_wp2_with fail
  refine (HBP.out _ hbd).mono ?_
  rintro e w4 ⟨g4,t4,rfl,hA4,hC4,hP4,hr4,hb4⟩
  have hB4:=hbd.trans (hb4.mono hbd.size)
  have hbo:=HFX.out t4 hC4 hr4
  have hz0 : decide (t4.sm.least < 0) = true:=decide_eq_true (by omega)
  have hz0' : t4.sm.least < 0:=by omega
  obtain ⟨z0,z1,z2,z3,z4,z5,z6,z7,z8,z9⟩:=hA4.ten
  clear hr4 hbo c3 hA4
  go_wp2_with fail
  go_ret
  exact ⟨rfl,hB4⟩
end Go.Proofs.YtijpfbcippijoaaGreatDoor

namespace Go.Proofs.YtijpfbcippijoaaGreatDoor
open Go.RowKit Go.Lib
set_option maxRecDepth 100000
end Go.Proofs.YtijpfbcippijoaaGreatDoor
