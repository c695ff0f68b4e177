import Derived.Test.YtijpfbcippijoaaGreatDoorGr36
import Derived.Test.YtijpfbcippijoaaGreatDoorGr30
namespace Go.Proofs.YtijpfbcippijoaaGreatDoor
open Go.RowKit Go.Lib
set_option maxRecDepth 100000
theorem takeD {P : Program} {md : Region.Mode} {ops : Array Oper} {Q : Exit→Act→World→Prop} {S : World→Prop} {i : Nat} {oi : Oper} {d : Option Nat} {v : Value} {fuel : Nat} {listed : Array Bool} {a : Act} {w : World} (hi : ops[i]? = some oi) (hd : oi.dst = d)
    (hs : Region.noSelect ops = true) (hf : Region.free md ops listed i = true) (hr : (Region.ready md ops listed).contains i = true)
    (hQ : ∀ c a w,Q (.panic c) (a.put oi.dst v) w→Q (.panic c) a w) (hy : YieldsIf P ops S oi v a) (hS : S w)
    (h : wpAnyH P md ops Q S fuel (listed.setIfInBounds i true) (a.put d v) w) : wpAnyH P md ops Q S (fuel + 1) listed a w:=by
  subst hd
  exact wpAnyH_take hi hs hf hr hQ hy hS h
theorem Rw.rng {w : World} {a : Option Addr} {n cap : Nat} {l : List (Int × Int)} (h : Rw pieceV 2 w a n cap l) : Sp.Rng w a n cap l :=
  ⟨h.len,h.room,fun j hj=>by
    obtain ⟨g,off,x,ha,hg,hx,hc⟩:=h.at j hj
    have e : l.getD j (0,0) = x:=by rw [List.getD_eq_getElem?_getD,hx]; rfl
    rw [e]
    exact ⟨g,off,ha,hg,hc 0 _ rfl,hc 1 _ rfl⟩⟩
theorem chk_srt : ∀ (l : List (Int × Int)) (i : Nat) (b : Int),Srt l→(∀ x ∈ l,0≤x.1∧x.2≤1048576)→(∀ x ∈ l,b < x.1)→Sp.chk i b l = (0,0)
  | [],_,_,_,_,_=>rfl
  | x :: l,i,b,hs,hb,hf=>by
    have h1:=hs.some_ x (by simp)
    have h2:=hb x (by simp)
    have h3:=hf x (by simp)
    unfold Sp.chk
    rw [if_neg (by omega),if_neg (by omega)]
    exact chk_srt l _ _ hs.tail (fun y hy=>hb y (List.mem_cons_of_mem _ hy)) hs.first
theorem check_srt {l : List (Int × Int)} (hs : Srt l) (hb : ∀ x ∈ l,0≤x.1∧x.2≤1048576) (hn : l.length≤32768) : Sp.checkL l = (0,0):=by
  unfold Sp.checkL
  rw [if_neg (by omega)]
  exact chk_srt l 0 (-1) hs hb fun x hx=>by have:=hb x hx; omega
set_option maxHeartbeats 4000000 in
theorem bumped_nil {w : World} {g : Nat} {a : Option Addr} {cap : Nat} (hA : At w .nil g) (hl : Rw pieceV 2 w a 0 cap []) (d : Int) :
    Calls Tryz.prog 60 #[.pointer (some ⟨g,0,none⟩),.int .i64 0,.slice a 0 cap,.int .i64 d] w fun e w'=>e = .returned (.pointer (some ⟨g,0,none⟩))∧Below w.heap.size w w':=by
  have c0 : w.cell? ⟨g,0,none⟩ = some (.int .i64 0):=hA.cells
  have HM:=meeting_list hl (by omega) ⟨fun x hx=>(by cases hx),fun i j x y _ hx=>(by simp at hx)⟩ 0 0 (Int.le_refl _)
  rw [show meetL 0 0 [] = [] from rfl] at HM
  clear hl
  go_enter Tryz.func60,Tryz.ntmps60
  go_wp2_with fail
  refine HM.mono ?_
  rintro e w1 ⟨a1,cap1,rfl,_,hb1⟩
  clear HM
  go_wp2_with fail
  go_ret
  exact ⟨rfl,hb1⟩
theorem bumped_root {w : World} {t : Tr} {g : Nat} {a : Option Addr} {m cap : Nat} {l : List (Int × Int)} (hA : At w t g) (hR : t.Rp) (hl : Rw pieceV 2 w a m cap l) (hm : m≤32768) (hs : Srt l) (hb : ∀ x ∈ l,0≤x.1∧x.2≤(t.row.length : Int)) (d : Int) (hd : -1≤d∧d≤1) :
    Calls Tryz.prog 60 #[.pointer (some ⟨g,0,none⟩),.int .i64 0,.slice a m cap,.int .i64 d] w fun e w'=>∃ g' t',e = .returned (.pointer (some ⟨g',0,none⟩))∧At w' t' g'∧t'.Can∧Pcs t'.lv∧t'.row = bmp l d 0 t.row∧Below w.heap.size w w':=by
  have hlen:=hR.len
  rcases hR.can with rfl | hf
  · have hn : l = []:=by
      cases l with
      | nil=>rfl
      | cons x l =>
        have h1:=hs.some_ x (by simp)
        have h2:=hb x (by simp)
        simp only [Tr.row,List.length_nil] at h2
        omega
    subst hn
    have h0:=hl.len
    simp only [List.length_nil] at h0
    subst h0
    refine (bumped_nil hA hl d).mono ?_
    rintro e w' ⟨rfl,hB⟩
    exact ⟨g,.nil,rfl,hA.below hB,.inl rfl,pcs_nil,rfl,hB⟩
  · refine (bumped_fine d hd t.sm.high.toNat (f:=0) (by have:=hf.pos; omega) hA ⟨hf,hR.pcs,fun c hc=>⟨hR.lo c hc,hR.hi c hc⟩,by omega,hs,fun x hx=>by have:=hb x hx; omega⟩ hl (by omega) 0 rfl).mono ?_
    rintro e w' ⟨g',t',rfl,hA',hB',hB⟩
    exact ⟨g',t',rfl,hA',.inr hB'.fine,hB'.pcs,by simpa using hB'.row,hB⟩
theorem Tr.Can.bounds {t : Tr} (h : t.Can) (hr : ∀ c ∈ t.row,0≤c.2∧c.2≤1048576) : 0≤t.sm.least∧t.sm.most≤1048576:=by
  rcases h with rfl | hf
  · exact ⟨Int.le_refl _,by decide⟩
  · obtain ⟨c,hc,e1⟩:=hf.wf.smIn.least
    obtain ⟨b,hb,e2⟩:=hf.wf.smIn.most
    have:=hr c hc
    have:=hr b hb
    omega
set_option maxHeartbeats 4000000 in
theorem bump_any {w : World} {q : Nat} {t : Tr} (h : RopeAt w q t) (hR : t.Rp) {a : Option Addr} {m cap : Nat} {l : List (Int × Int)} (hl : Rw pieceV 2 w a m cap l) (hm : m≤32768) (hs : Srt l) (hb : ∀ x ∈ l,0≤x.1∧x.2≤(t.row.length : Int)) (d : Int) (hd : d = 1 ∨ d = -1) (hok : ∀ c ∈ bmp l d 0 t.row,0≤c.2∧c.2≤1048576) :
    Calls Tryz.prog 26 #[.pointer (some ⟨q,0,none⟩),.slice a m cap,.int .i64 d] w fun e w'=>e = .returned (.int .i64 0)∧(∃ t',RopeAt w' q t'∧t'.Rp∧t'.row = bmp l d 0 t.row)∧Upd q w w':=by
  have hlen:=hR.len
  have hll:=hl.len
  have HCK:=Sp.check_any hl.rng
  rw [check_srt hs (fun x hx=>by have:=hb x hx; omega) (by omega)] at HCK
  have HT : Hid (∀ W,Below w.heap.size w W→Calls Tryz.prog 24 #[.pointer (some ⟨q,0,none⟩)] W fun e w'=>e = .returned (.int .i64 (t.row.length : Int))∧w' = W):=fun W hW=>ropeTotal_any (h.below hW)
  obtain ⟨g,hq,hA⟩:=h
  have hql:=(Array.getElem?_eq_some_iff.1 hq).1
  have c0 : w.cell? ⟨q,0,none⟩ = some (.pointer (some ⟨g,0,none⟩)):=by simp [World.cell?,hq]
  have HQ : Hid (w.heap[q]? = some (.cells #[.pointer (some ⟨g,0,none⟩)] 73)):=hq
  have HBP : Hid (∀ W,Below w.heap.size w W→Calls Tryz.prog 60 #[.pointer (some ⟨g,0,none⟩),.int .i64 0,.slice a m cap,.int .i64 d] W fun e w'=>∃ g' t',e = .returned (.pointer (some ⟨g',0,none⟩))∧At w' t' g'∧t'.Can∧Pcs t'.lv∧t'.row = bmp l d 0 t.row∧Below W.heap.size W w'):=fun W hW=>bumped_root (hA.below hW) hR (hl.below hW) hm hs hb d (by omega)
  have HL : Hid (Rw pieceV 2 w a m cap l):=hl
  have HB : Hid (∀ x ∈ l,0≤x.1∧x.2≤(t.row.length : Int)):=hb
  have HOK : Hid (∀ c ∈ bmp l d 0 t.row,0≤c.2∧c.2≤1048576):=hok
  clear hl hb hok hq hs
  rcases hd with rfl | rfl
  · skip
    go_enter Tryz.func26,Tryz.ntmps26
    go_wp2_with fail
    refine HCK.mono ?_
    rintro e w1 ⟨rfl,hb1⟩
    clear HCK
    rcases Nat.eq_zero_or_pos m with h0 | h0
    · subst h0
      go_wp2_with fail
      refine wp_region_held_drew (S:=(fun _=>True)) (by kernel_rfl) ?hS1 (fun hHeld=>?rest1)
      case hS1=>trivial
      refine takeD (i:=0) (d:=some 24) (v:=?vT2) rfl rfl (by kernel_rfl) (by kernel_rfl) (by kernel_rfl) (fun _ _ _ h=>h) (Or.inl ⟨by rfl,?hyT2⟩) (by assumption) ?rstT2
      case hyT2=>(intro w hSw; (try dsimp only at hSw); go_simp; (try with_reducible rfl))
      try simp only [Act.put,List.setIfInBounds_toArray,List.set_cons_zero,List.set_cons_succ]
      refine takeD (i:=1) (d:=some 25) (v:=?vT3) rfl rfl (by kernel_rfl) (by kernel_rfl) (by kernel_rfl) (fun _ _ _ h=>h) (Or.inl ⟨by rfl,?hyT3⟩) (by assumption) ?rstT3
      case hyT3=>(intro w hSw; (try dsimp only at hSw); go_simp; (try with_reducible rfl))
      try simp only [Act.put,List.setIfInBounds_toArray,List.set_cons_zero,List.set_cons_succ]
      refine takeD (i:=2) (d:=some 26) (v:=?vT4) rfl rfl (by kernel_rfl) (by kernel_rfl) (by kernel_rfl) (fun _ _ _ h=>h) (Or.inl ⟨by rfl,?hyT4⟩) (by assumption) ?rstT4
      case hyT4=>(intro w hSw; (try dsimp only at hSw); go_simp; (try with_reducible rfl))
      try simp only [Act.put,List.setIfInBounds_toArray,List.set_cons_zero,List.set_cons_succ]
      refine takeD (i:=3) (d:=some 27) (v:=?vT5) rfl rfl (by kernel_rfl) (by kernel_rfl) (by kernel_rfl) (fun _ _ _ h=>h) (Or.inl ⟨by rfl,?hyT5⟩) (by assumption) ?rstT5
      case hyT5=>(intro w hSw; (try dsimp only at hSw); go_simp; (try with_reducible rfl))
      try simp only [Act.put,List.setIfInBounds_toArray,List.set_cons_zero,List.set_cons_succ]
      refine takeD (i:=4) (d:=some 28) (v:=undef) rfl rfl (by kernel_rfl) (by kernel_rfl) (by kernel_rfl) (fun _ _ _ h=>h) (Or.inr ⟨by rfl,rfl⟩) (by assumption) ?_
      try simp only [Act.put,List.setIfInBounds_toArray,List.set_cons_zero,List.set_cons_succ]
      refine takeD (i:=5) (d:=some 29) (v:=undef) rfl rfl (by kernel_rfl) (by kernel_rfl) (by kernel_rfl) (fun _ _ _ h=>h) (Or.inr ⟨by rfl,rfl⟩) (by assumption) ?_
      try simp only [Act.put,List.setIfInBounds_toArray,List.set_cons_zero,List.set_cons_succ]
      refine takeD (i:=6) (d:=some 30) (v:=undef) rfl rfl (by kernel_rfl) (by kernel_rfl) (by kernel_rfl) (fun _ _ _ h=>h) (Or.inr ⟨by rfl,rfl⟩) (by assumption) ?_
      try simp only [Act.put,List.setIfInBounds_toArray,List.set_cons_zero,List.set_cons_succ]
      refine takeD (i:=7) (d:=some 31) (v:=undef) rfl rfl (by kernel_rfl) (by kernel_rfl) (by kernel_rfl) (fun _ _ _ h=>h) (Or.inr ⟨by rfl,rfl⟩) (by assumption) ?_
      try simp only [Act.put,List.setIfInBounds_toArray,List.set_cons_zero,List.set_cons_succ]
      refine takeD (i:=8) (d:=some 32) (v:=undef) rfl rfl (by kernel_rfl) (by kernel_rfl) (by kernel_rfl) (fun _ _ _ h=>h) (Or.inr ⟨by rfl,rfl⟩) (by assumption) ?_
      try simp only [Act.put,List.setIfInBounds_toArray,List.set_cons_zero,List.set_cons_succ]
      refine takeD (i:=9) (d:=some 33) (v:=undef) rfl rfl (by kernel_rfl) (by kernel_rfl) (by kernel_rfl) (fun _ _ _ h=>h) (Or.inr ⟨by rfl,rfl⟩) (by assumption) ?_
      try simp only [Act.put,List.setIfInBounds_toArray,List.set_cons_zero,List.set_cons_succ]
      refine takeD (i:=10) (d:=some 34) (v:=undef) rfl rfl (by kernel_rfl) (by kernel_rfl) (by kernel_rfl) (fun _ _ _ h=>h) (Or.inr ⟨by rfl,rfl⟩) (by assumption) ?_
      try simp only [Act.put,List.setIfInBounds_toArray,List.set_cons_zero,List.set_cons_succ]
      refine takeD (i:=11) (d:=some 35) (v:=undef) rfl rfl (by kernel_rfl) (by kernel_rfl) (by kernel_rfl) (fun _ _ _ h=>h) (Or.inr ⟨by rfl,rfl⟩) (by assumption) ?_
      try simp only [Act.put,List.setIfInBounds_toArray,List.set_cons_zero,List.set_cons_succ]
      refine takeD (i:=12) (d:=some 36) (v:=undef) rfl rfl (by kernel_rfl) (by kernel_rfl) (by kernel_rfl) (fun _ _ _ h=>h) (Or.inr ⟨by rfl,rfl⟩) (by assumption) ?_
      try simp only [Act.put,List.setIfInBounds_toArray,List.set_cons_zero,List.set_cons_succ]
      refine takeD (i:=13) (d:=some 37) (v:=undef) rfl rfl (by kernel_rfl) (by kernel_rfl) (by kernel_rfl) (fun _ _ _ h=>h) (Or.inr ⟨by rfl,rfl⟩) (by assumption) ?_
      try simp only [Act.put,List.setIfInBounds_toArray,List.set_cons_zero,List.set_cons_succ]
      refine takeD (i:=14) (d:=some 38) (v:=?vT6) rfl rfl (by kernel_rfl) (by kernel_rfl) (by kernel_rfl) (fun _ _ _ h=>h) (Or.inl ⟨by rfl,?hyT6⟩) (by assumption) ?rstT6
      case hyT6=>(intro w hSw; (try dsimp only at hSw); go_simp; (try with_reducible rfl))
      try simp only [Act.put,List.setIfInBounds_toArray,List.set_cons_zero,List.set_cons_succ]
      refine wpAnyH_done (by kernel_rfl) ?_ _
      have hbd : Below w.heap.size w w1.drew:=by first | exact hb1 | exact hb1.drew
      have c3:=(hbd.cell (p:=⟨q,0,none⟩) hql).trans c0
      clear c0
      go_wp2_with fail
      refine (HBP.out _ hbd).mono ?_
      rintro e w4 ⟨g4,t4,rfl,hA4,hC4,hP4,hr4,hb4⟩
      have hB4:=hbd.trans (hb4.mono hbd.size)
      have hbo:=hC4.bounds (by rw [hr4]; exact HOK.out)
      have hz0 : decide (t4.sm.least < 0) = false:=decide_eq_false (by omega)
      have hz1 : decide (1048576 < t4.sm.most) = false:=decide_eq_false (by omega)
      obtain ⟨z0,z1,z2,z3,z4,z5,z6,z7,z8,z9⟩:=hA4.ten
      have hq4 : w4.heap[q]? = some (.cells #[.pointer (some ⟨g,0,none⟩)] 73):=(hB4.block q hql).trans HQ.out
      have c8 : w4.cell? ⟨q,0,none⟩ = some (.pointer (some ⟨g,0,none⟩)):=by simp [World.cell?,hq4]
      have f8 : w4.frozen? ⟨q,0,none⟩ = false:=frozen_of_row w4 q 0 _ _ hq4
      have HF : Hid (RopeAt (w4.setCell ⟨q,0,none⟩ (.pointer (some ⟨g4,0,none⟩))) q t4):=ropeAt_set hq4 hA4
      have hrl : t4.row.length = t.row.length:=by rw [hr4,bmp_len]
      have hrp : t4.Rp:=⟨hC4,hP4,fun c hc=>(HOK.out c (hr4 ▸ hc)).1,fun c hc=>(HOK.out c (hr4 ▸ hc)).2,by omega⟩
      have HR4 : Hid (t4.row = bmp l _ 0 t.row):=hr4
      clear hr4 hq4 hrl hbo c3 hA4
      go_wp2_with fail
      go_ret
      exact ⟨rfl,⟨t4,HF.out,hrp,HR4.out⟩,(Upd.ofBelow hB4).trans (upd_set q _)⟩
    · obtain ⟨M,rfl⟩ : ∃ M,m = M + 1:=⟨m - 1,by omega⟩
      obtain ⟨ga,off,x,rfl,hga,hx,hc⟩:=HL.out.at M (by omega)
      have HX : Hid (w.cell? ⟨ga,off + M * 2 + 1,none⟩ = some (.int .i64 x.2)):=hc 1 _ rfl
      have c1 : w1.cell? ⟨ga,off + M * 2 + 1,none⟩ = some (.int .i64 x.2):=(hb1.cell (p:=⟨ga,off + M * 2 + 1,none⟩) hga).trans HX.out
      have hx2 : ¬ (t.row.length : Int) < x.2:=by have:=(HB.out x (List.mem_of_getElem? hx)).2; omega
      have b2 : decide ((t.row.length : Int) < x.2) = false:=decide_eq_false hx2
      have u2 : IntKind.i64.wrap (M : Int) = (M : Int):=IntWalk.i64_in _ (by omega)
      have u3 : (M : Int) < (M : Int) + 1:=by omega
      clear hc hx hx2
      go_wp2_with fail
      refine wp_region_held_drew (S:=(fun W=>W.cell? ⟨ga,off + M * 2 + 1,none⟩ = some (.int .i64 x.2))) (by kernel_rfl) ?hS7 (fun hHeld=>?rest7)
      case hS7=>(first | exact c1 | exact c2)
      refine takeD (i:=0) (d:=some 24) (v:=?vT8) rfl rfl (by kernel_rfl) (by kernel_rfl) (by kernel_rfl) (fun _ _ _ h=>h) (Or.inl ⟨by rfl,?hyT8⟩) (by assumption) ?rstT8
      case hyT8=>(intro w hSw; (try dsimp only at hSw); go_simp; (try with_reducible rfl))
      try simp only [Act.put,List.setIfInBounds_toArray,List.set_cons_zero,List.set_cons_succ]
      refine takeD (i:=1) (d:=some 25) (v:=?vT9) rfl rfl (by kernel_rfl) (by kernel_rfl) (by kernel_rfl) (fun _ _ _ h=>h) (Or.inl ⟨by rfl,?hyT9⟩) (by assumption) ?rstT9
      case hyT9=>(intro w hSw; (try dsimp only at hSw); go_simp; (try with_reducible rfl))
      try simp only [Act.put,List.setIfInBounds_toArray,List.set_cons_zero,List.set_cons_succ]
      refine takeD (i:=2) (d:=some 26) (v:=?vT10) rfl rfl (by kernel_rfl) (by kernel_rfl) (by kernel_rfl) (fun _ _ _ h=>h) (Or.inl ⟨by rfl,?hyT10⟩) (by assumption) ?rstT10
      case hyT10=>(intro w hSw; (try dsimp only at hSw); go_simp; (try with_reducible rfl))
      try simp only [Act.put,List.setIfInBounds_toArray,List.set_cons_zero,List.set_cons_succ]
      refine takeD (i:=3) (d:=some 27) (v:=?vT11) rfl rfl (by kernel_rfl) (by kernel_rfl) (by kernel_rfl) (fun _ _ _ h=>h) (Or.inl ⟨by rfl,?hyT11⟩) (by assumption) ?rstT11
      case hyT11=>(intro w hSw; (try dsimp only at hSw); go_simp; (try with_reducible rfl))
      try simp only [Act.put,List.setIfInBounds_toArray,List.set_cons_zero,List.set_cons_succ]
      refine takeD (i:=4) (d:=some 28) (v:=?vT12) rfl rfl (by kernel_rfl) (by kernel_rfl) (by kernel_rfl) (fun _ _ _ h=>h) (Or.inl ⟨by rfl,?hyT12⟩) (by assumption) ?rstT12
      case hyT12=>(intro w hSw; (try dsimp only at hSw); go_simp; (try with_reducible rfl))
      try simp only [Act.put,List.setIfInBounds_toArray,List.set_cons_zero,List.set_cons_succ]
      refine takeD (i:=5) (d:=some 29) (v:=?vT13) rfl rfl (by kernel_rfl) (by kernel_rfl) (by kernel_rfl) (fun _ _ _ h=>h) (Or.inl ⟨by rfl,?hyT13⟩) (by assumption) ?rstT13
      case hyT13=>(intro w hSw; (try dsimp only at hSw); go_simp; (try with_reducible rfl))
      try simp only [Act.put,List.setIfInBounds_toArray,List.set_cons_zero,List.set_cons_succ]
      refine takeD (i:=6) (d:=some 30) (v:=?vT14) rfl rfl (by kernel_rfl) (by kernel_rfl) (by kernel_rfl) (fun _ _ _ h=>h) (Or.inl ⟨by rfl,?hyT14⟩) (by assumption) ?rstT14
      case hyT14=>(intro w hSw; (try dsimp only at hSw); go_simp; (try with_reducible rfl))
      try simp only [Act.put,List.setIfInBounds_toArray,List.set_cons_zero,List.set_cons_succ]
      refine takeD (i:=7) (d:=some 31) (v:=?vT15) rfl rfl (by kernel_rfl) (by kernel_rfl) (by kernel_rfl) (fun _ _ _ h=>h) (Or.inl ⟨by rfl,?hyT15⟩) (by assumption) ?rstT15
      case hyT15=>(intro w hSw; (try dsimp only at hSw); go_simp; (try with_reducible rfl))
      try simp only [Act.put,List.setIfInBounds_toArray,List.set_cons_zero,List.set_cons_succ]
      refine takeD (i:=8) (d:=some 32) (v:=?vT16) rfl rfl (by kernel_rfl) (by kernel_rfl) (by kernel_rfl) (fun _ _ _ h=>h) (Or.inl ⟨by rfl,?hyT16⟩) (by assumption) ?rstT16
      case hyT16=>(intro w hSw; (try dsimp only at hSw); go_simp; (try with_reducible rfl))
      try simp only [Act.put,List.setIfInBounds_toArray,List.set_cons_zero,List.set_cons_succ]
      refine takeD (i:=9) (d:=some 33) (v:=?vT17) rfl rfl (by kernel_rfl) (by kernel_rfl) (by kernel_rfl) (fun _ _ _ h=>h) (Or.inl ⟨by rfl,?hyT17⟩) (by assumption) ?rstT17
      case hyT17=>(intro w hSw; (try dsimp only at hSw); go_simp; (try with_reducible rfl))
      try simp only [Act.put,List.setIfInBounds_toArray,List.set_cons_zero,List.set_cons_succ]
      refine takeD (i:=10) (d:=some 34) (v:=?vT18) rfl rfl (by kernel_rfl) (by kernel_rfl) (by kernel_rfl) (fun _ _ _ h=>h) (Or.inl ⟨by rfl,?hyT18⟩) (by assumption) ?rstT18
      case hyT18=>(intro w hSw; (try dsimp only at hSw); go_simp; (try with_reducible rfl))
      try simp only [Act.put,List.setIfInBounds_toArray,List.set_cons_zero,List.set_cons_succ]
      refine takeD (i:=11) (d:=some 35) (v:=?vT19) rfl rfl (by kernel_rfl) (by kernel_rfl) (by kernel_rfl) (fun _ _ _ h=>h) (Or.inl ⟨by rfl,?hyT19⟩) (by assumption) ?rstT19
      case hyT19=>(intro w hSw; (try dsimp only at hSw); go_simp; (try with_reducible rfl))
      try simp only [Act.put,List.setIfInBounds_toArray,List.set_cons_zero,List.set_cons_succ]
      refine wpAnyH_ready (rs:=[12]) (by kernel_rfl) (by simp) ?_
      refine AllReadyH.cons rfl (fun K hK=>?_) AllReadyH.nil
      go_simp
      refine (HT.out _ ?_).mono ?_
      · first | exact hb1 | exact hb1.drew
      rintro e2 w2 ⟨rfl,hw2⟩
      have hb2 : Below w.heap.size w w2:=by rw [hw2]; first | exact hb1 | exact hb1.drew
      have c2 : w2.cell? ⟨ga,off + M * 2 + 1,none⟩ = some (.int .i64 x.2):=(hb2.cell (p:=⟨ga,off + M * 2 + 1,none⟩) hga).trans (HX.out)
      clear hb1 hw2 c1
      have hb1:=hb2
      clear hHeld
      refine hK.out _ _ ?hS20 (fun hHeld=>?rest20)
      case hS20=>(first | exact c1 | exact c2)
      clear hK K
      try simp only [Act.put,List.setIfInBounds_toArray,List.set_cons_zero,List.set_cons_succ]
      refine takeD (i:=13) (d:=some 37) (v:=?vT21) rfl rfl (by kernel_rfl) (by kernel_rfl) (by kernel_rfl) (fun _ _ _ h=>h) (Or.inl ⟨by rfl,?hyT21⟩) (by assumption) ?rstT21
      case hyT21=>(intro w hSw; (try dsimp only at hSw); go_simp; (try with_reducible rfl))
      try simp only [Act.put,List.setIfInBounds_toArray,List.set_cons_zero,List.set_cons_succ]
      refine takeD (i:=14) (d:=some 38) (v:=?vT22) rfl rfl (by kernel_rfl) (by kernel_rfl) (by kernel_rfl) (fun _ _ _ h=>h) (Or.inl ⟨by rfl,?hyT22⟩) (by assumption) ?rstT22
      case hyT22=>(intro w hSw; (try dsimp only at hSw); go_simp; (try with_reducible rfl))
      try simp only [Act.put,List.setIfInBounds_toArray,List.set_cons_zero,List.set_cons_succ]
      refine wpAnyH_done (by kernel_rfl) ?_ _
      have hbd : Below w.heap.size w w2:=by first | exact hb1 | exact hb1.drew
      have c3:=(hbd.cell (p:=⟨q,0,none⟩) hql).trans c0
      clear c0
      go_wp2_with fail
      refine (HBP.out _ hbd).mono ?_
      rintro e w4 ⟨g4,t4,rfl,hA4,hC4,hP4,hr4,hb4⟩
      have hB4:=hbd.trans (hb4.mono hbd.size)
      have hbo:=hC4.bounds (by rw [hr4]; exact HOK.out)
      have hz0 : decide (t4.sm.least < 0) = false:=decide_eq_false (by omega)
      have hz1 : decide (1048576 < t4.sm.most) = false:=decide_eq_false (by omega)
      obtain ⟨z0,z1,z2,z3,z4,z5,z6,z7,z8,z9⟩:=hA4.ten
      have hq4 : w4.heap[q]? = some (.cells #[.pointer (some ⟨g,0,none⟩)] 73):=(hB4.block q hql).trans HQ.out
      have c8 : w4.cell? ⟨q,0,none⟩ = some (.pointer (some ⟨g,0,none⟩)):=by simp [World.cell?,hq4]
      have f8 : w4.frozen? ⟨q,0,none⟩ = false:=frozen_of_row w4 q 0 _ _ hq4
      have HF : Hid (RopeAt (w4.setCell ⟨q,0,none⟩ (.pointer (some ⟨g4,0,none⟩))) q t4):=ropeAt_set hq4 hA4
      have hrl : t4.row.length = t.row.length:=by rw [hr4,bmp_len]
      have hrp : t4.Rp:=⟨hC4,hP4,fun c hc=>(HOK.out c (hr4 ▸ hc)).1,fun c hc=>(HOK.out c (hr4 ▸ hc)).2,by omega⟩
      have HR4 : Hid (t4.row = bmp l _ 0 t.row):=hr4
      clear hr4 hq4 hrl hbo c3 hA4
      go_wp2_with fail
      go_ret
      exact ⟨rfl,⟨t4,HF.out,hrp,HR4.out⟩,(Upd.ofBelow hB4).trans (upd_set q _)⟩
  · skip
    go_enter Tryz.func26,Tryz.ntmps26
    go_wp2_with fail
    refine HCK.mono ?_
    rintro e w1 ⟨rfl,hb1⟩
    clear HCK
    rcases Nat.eq_zero_or_pos m with h0 | h0
    · subst h0
      go_wp2_with fail
      refine wp_region_held_drew (S:=(fun _=>True)) (by kernel_rfl) ?hS23 (fun hHeld=>?rest23)
      case hS23=>trivial
      refine takeD (i:=0) (d:=some 24) (v:=?vT24) rfl rfl (by kernel_rfl) (by kernel_rfl) (by kernel_rfl) (fun _ _ _ h=>h) (Or.inl ⟨by rfl,?hyT24⟩) (by assumption) ?rstT24
      case hyT24=>(intro w hSw; (try dsimp only at hSw); go_simp; (try with_reducible rfl))
      try simp only [Act.put,List.setIfInBounds_toArray,List.set_cons_zero,List.set_cons_succ]
      refine takeD (i:=1) (d:=some 25) (v:=?vT25) rfl rfl (by kernel_rfl) (by kernel_rfl) (by kernel_rfl) (fun _ _ _ h=>h) (Or.inl ⟨by rfl,?hyT25⟩) (by assumption) ?rstT25
      case hyT25=>(intro w hSw; (try dsimp only at hSw); go_simp; (try with_reducible rfl))
      try simp only [Act.put,List.setIfInBounds_toArray,List.set_cons_zero,List.set_cons_succ]
      refine takeD (i:=2) (d:=some 26) (v:=?vT26) rfl rfl (by kernel_rfl) (by kernel_rfl) (by kernel_rfl) (fun _ _ _ h=>h) (Or.inl ⟨by rfl,?hyT26⟩) (by assumption) ?rstT26
      case hyT26=>(intro w hSw; (try dsimp only at hSw); go_simp; (try with_reducible rfl))
      try simp only [Act.put,List.setIfInBounds_toArray,List.set_cons_zero,List.set_cons_succ]
      refine takeD (i:=3) (d:=some 27) (v:=?vT27) rfl rfl (by kernel_rfl) (by kernel_rfl) (by kernel_rfl) (fun _ _ _ h=>h) (Or.inl ⟨by rfl,?hyT27⟩) (by assumption) ?rstT27
      case hyT27=>(intro w hSw; (try dsimp only at hSw); go_simp; (try with_reducible rfl))
      try simp only [Act.put,List.setIfInBounds_toArray,List.set_cons_zero,List.set_cons_succ]
      refine takeD (i:=4) (d:=some 28) (v:=undef) rfl rfl (by kernel_rfl) (by kernel_rfl) (by kernel_rfl) (fun _ _ _ h=>h) (Or.inr ⟨by rfl,rfl⟩) (by assumption) ?_
      try simp only [Act.put,List.setIfInBounds_toArray,List.set_cons_zero,List.set_cons_succ]
      refine takeD (i:=5) (d:=some 29) (v:=undef) rfl rfl (by kernel_rfl) (by kernel_rfl) (by kernel_rfl) (fun _ _ _ h=>h) (Or.inr ⟨by rfl,rfl⟩) (by assumption) ?_
      try simp only [Act.put,List.setIfInBounds_toArray,List.set_cons_zero,List.set_cons_succ]
      refine takeD (i:=6) (d:=some 30) (v:=undef) rfl rfl (by kernel_rfl) (by kernel_rfl) (by kernel_rfl) (fun _ _ _ h=>h) (Or.inr ⟨by rfl,rfl⟩) (by assumption) ?_
      try simp only [Act.put,List.setIfInBounds_toArray,List.set_cons_zero,List.set_cons_succ]
      refine takeD (i:=7) (d:=some 31) (v:=undef) rfl rfl (by kernel_rfl) (by kernel_rfl) (by kernel_rfl) (fun _ _ _ h=>h) (Or.inr ⟨by rfl,rfl⟩) (by assumption) ?_
      try simp only [Act.put,List.setIfInBounds_toArray,List.set_cons_zero,List.set_cons_succ]
      refine takeD (i:=8) (d:=some 32) (v:=undef) rfl rfl (by kernel_rfl) (by kernel_rfl) (by kernel_rfl) (fun _ _ _ h=>h) (Or.inr ⟨by rfl,rfl⟩) (by assumption) ?_
      try simp only [Act.put,List.setIfInBounds_toArray,List.set_cons_zero,List.set_cons_succ]
      refine takeD (i:=9) (d:=some 33) (v:=undef) rfl rfl (by kernel_rfl) (by kernel_rfl) (by kernel_rfl) (fun _ _ _ h=>h) (Or.inr ⟨by rfl,rfl⟩) (by assumption) ?_
      try simp only [Act.put,List.setIfInBounds_toArray,List.set_cons_zero,List.set_cons_succ]
      refine takeD (i:=10) (d:=some 34) (v:=undef) rfl rfl (by kernel_rfl) (by kernel_rfl) (by kernel_rfl) (fun _ _ _ h=>h) (Or.inr ⟨by rfl,rfl⟩) (by assumption) ?_
      try simp only [Act.put,List.setIfInBounds_toArray,List.set_cons_zero,List.set_cons_succ]
      refine takeD (i:=11) (d:=some 35) (v:=undef) rfl rfl (by kernel_rfl) (by kernel_rfl) (by kernel_rfl) (fun _ _ _ h=>h) (Or.inr ⟨by rfl,rfl⟩) (by assumption) ?_
      try simp only [Act.put,List.setIfInBounds_toArray,List.set_cons_zero,List.set_cons_succ]
      refine takeD (i:=12) (d:=some 36) (v:=undef) rfl rfl (by kernel_rfl) (by kernel_rfl) (by kernel_rfl) (fun _ _ _ h=>h) (Or.inr ⟨by rfl,rfl⟩) (by assumption) ?_
      try simp only [Act.put,List.setIfInBounds_toArray,List.set_cons_zero,List.set_cons_succ]
      refine takeD (i:=13) (d:=some 37) (v:=undef) rfl rfl (by kernel_rfl) (by kernel_rfl) (by kernel_rfl) (fun _ _ _ h=>h) (Or.inr ⟨by rfl,rfl⟩) (by assumption) ?_
      try simp only [Act.put,List.setIfInBounds_toArray,List.set_cons_zero,List.set_cons_succ]
      refine takeD (i:=14) (d:=some 38) (v:=?vT28) rfl rfl (by kernel_rfl) (by kernel_rfl) (by kernel_rfl) (fun _ _ _ h=>h) (Or.inl ⟨by rfl,?hyT28⟩) (by assumption) ?rstT28
      case hyT28=>(intro w hSw; (try dsimp only at hSw); go_simp; (try with_reducible rfl))
      try simp only [Act.put,List.setIfInBounds_toArray,List.set_cons_zero,List.set_cons_succ]
      refine wpAnyH_done (by kernel_rfl) ?_ _
      have hbd : Below w.heap.size w w1.drew:=by first | exact hb1 | exact hb1.drew
      have c3:=(hbd.cell (p:=⟨q,0,none⟩) hql).trans c0
      clear c0
      go_wp2_with fail
      refine (HBP.out _ hbd).mono ?_
      rintro e w4 ⟨g4,t4,rfl,hA4,hC4,hP4,hr4,hb4⟩
      have hB4:=hbd.trans (hb4.mono hbd.size)
      have hbo:=hC4.bounds (by rw [hr4]; exact HOK.out)
      have hz0 : decide (t4.sm.least < 0) = false:=decide_eq_false (by omega)
      have hz1 : decide (1048576 < t4.sm.most) = false:=decide_eq_false (by omega)
      obtain ⟨z0,z1,z2,z3,z4,z5,z6,z7,z8,z9⟩:=hA4.ten
      have hq4 : w4.heap[q]? = some (.cells #[.pointer (some ⟨g,0,none⟩)] 73):=(hB4.block q hql).trans HQ.out
      have c8 : w4.cell? ⟨q,0,none⟩ = some (.pointer (some ⟨g,0,none⟩)):=by simp [World.cell?,hq4]
      have f8 : w4.frozen? ⟨q,0,none⟩ = false:=frozen_of_row w4 q 0 _ _ hq4
      have HF : Hid (RopeAt (w4.setCell ⟨q,0,none⟩ (.pointer (some ⟨g4,0,none⟩))) q t4):=ropeAt_set hq4 hA4
      have hrl : t4.row.length = t.row.length:=by rw [hr4,bmp_len]
      have hrp : t4.Rp:=⟨hC4,hP4,fun c hc=>(HOK.out c (hr4 ▸ hc)).1,fun c hc=>(HOK.out c (hr4 ▸ hc)).2,by omega⟩
      have HR4 : Hid (t4.row = bmp l _ 0 t.row):=hr4
      clear hr4 hq4 hrl hbo c3 hA4
      go_wp2_with fail
      go_ret
      exact ⟨rfl,⟨t4,HF.out,hrp,HR4.out⟩,(Upd.ofBelow hB4).trans (upd_set q _)⟩
    · obtain ⟨M,rfl⟩ : ∃ M,m = M + 1:=⟨m - 1,by omega⟩
      obtain ⟨ga,off,x,rfl,hga,hx,hc⟩:=HL.out.at M (by omega)
      have HX : Hid (w.cell? ⟨ga,off + M * 2 + 1,none⟩ = some (.int .i64 x.2)):=hc 1 _ rfl
      have c1 : w1.cell? ⟨ga,off + M * 2 + 1,none⟩ = some (.int .i64 x.2):=(hb1.cell (p:=⟨ga,off + M * 2 + 1,none⟩) hga).trans HX.out
      have hx2 : ¬ (t.row.length : Int) < x.2:=by have:=(HB.out x (List.mem_of_getElem? hx)).2; omega
      have b2 : decide ((t.row.length : Int) < x.2) = false:=decide_eq_false hx2
      have u2 : IntKind.i64.wrap (M : Int) = (M : Int):=IntWalk.i64_in _ (by omega)
      have u3 : (M : Int) < (M : Int) + 1:=by omega
      clear hc hx hx2
      go_wp2_with fail
      refine wp_region_held_drew (S:=(fun W=>W.cell? ⟨ga,off + M * 2 + 1,none⟩ = some (.int .i64 x.2))) (by kernel_rfl) ?hS29 (fun hHeld=>?rest29)
      case hS29=>(first | exact c1 | exact c2)
      refine takeD (i:=0) (d:=some 24) (v:=?vT30) rfl rfl (by kernel_rfl) (by kernel_rfl) (by kernel_rfl) (fun _ _ _ h=>h) (Or.inl ⟨by rfl,?hyT30⟩) (by assumption) ?rstT30
      case hyT30=>(intro w hSw; (try dsimp only at hSw); go_simp; (try with_reducible rfl))
      try simp only [Act.put,List.setIfInBounds_toArray,List.set_cons_zero,List.set_cons_succ]
      refine takeD (i:=1) (d:=some 25) (v:=?vT31) rfl rfl (by kernel_rfl) (by kernel_rfl) (by kernel_rfl) (fun _ _ _ h=>h) (Or.inl ⟨by rfl,?hyT31⟩) (by assumption) ?rstT31
      case hyT31=>(intro w hSw; (try dsimp only at hSw); go_simp; (try with_reducible rfl))
      try simp only [Act.put,List.setIfInBounds_toArray,List.set_cons_zero,List.set_cons_succ]
      refine takeD (i:=2) (d:=some 26) (v:=?vT32) rfl rfl (by kernel_rfl) (by kernel_rfl) (by kernel_rfl) (fun _ _ _ h=>h) (Or.inl ⟨by rfl,?hyT32⟩) (by assumption) ?rstT32
      case hyT32=>(intro w hSw; (try dsimp only at hSw); go_simp; (try with_reducible rfl))
      try simp only [Act.put,List.setIfInBounds_toArray,List.set_cons_zero,List.set_cons_succ]
      refine takeD (i:=3) (d:=some 27) (v:=?vT33) rfl rfl (by kernel_rfl) (by kernel_rfl) (by kernel_rfl) (fun _ _ _ h=>h) (Or.inl ⟨by rfl,?hyT33⟩) (by assumption) ?rstT33
      case hyT33=>(intro w hSw; (try dsimp only at hSw); go_simp; (try with_reducible rfl))
      try simp only [Act.put,List.setIfInBounds_toArray,List.set_cons_zero,List.set_cons_succ]
      refine takeD (i:=4) (d:=some 28) (v:=?vT34) rfl rfl (by kernel_rfl) (by kernel_rfl) (by kernel_rfl) (fun _ _ _ h=>h) (Or.inl ⟨by rfl,?hyT34⟩) (by assumption) ?rstT34
      case hyT34=>(intro w hSw; (try dsimp only at hSw); go_simp; (try with_reducible rfl))
      try simp only [Act.put,List.setIfInBounds_toArray,List.set_cons_zero,List.set_cons_succ]
      refine takeD (i:=5) (d:=some 29) (v:=?vT35) rfl rfl (by kernel_rfl) (by kernel_rfl) (by kernel_rfl) (fun _ _ _ h=>h) (Or.inl ⟨by rfl,?hyT35⟩) (by assumption) ?rstT35
      case hyT35=>(intro w hSw; (try dsimp only at hSw); go_simp; (try with_reducible rfl))
      try simp only [Act.put,List.setIfInBounds_toArray,List.set_cons_zero,List.set_cons_succ]
      refine takeD (i:=6) (d:=some 30) (v:=?vT36) rfl rfl (by kernel_rfl) (by kernel_rfl) (by kernel_rfl) (fun _ _ _ h=>h) (Or.inl ⟨by rfl,?hyT36⟩) (by assumption) ?rstT36
      case hyT36=>(intro w hSw; (try dsimp only at hSw); go_simp; (try with_reducible rfl))
      try simp only [Act.put,List.setIfInBounds_toArray,List.set_cons_zero,List.set_cons_succ]
      refine takeD (i:=7) (d:=some 31) (v:=?vT37) rfl rfl (by kernel_rfl) (by kernel_rfl) (by kernel_rfl) (fun _ _ _ h=>h) (Or.inl ⟨by rfl,?hyT37⟩) (by assumption) ?rstT37
      case hyT37=>(intro w hSw; (try dsimp only at hSw); go_simp; (try with_reducible rfl))
      try simp only [Act.put,List.setIfInBounds_toArray,List.set_cons_zero,List.set_cons_succ]
      refine takeD (i:=8) (d:=some 32) (v:=?vT38) rfl rfl (by kernel_rfl) (by kernel_rfl) (by kernel_rfl) (fun _ _ _ h=>h) (Or.inl ⟨by rfl,?hyT38⟩) (by assumption) ?rstT38
      case hyT38=>(intro w hSw; (try dsimp only at hSw); go_simp; (try with_reducible rfl))
      try simp only [Act.put,List.setIfInBounds_toArray,List.set_cons_zero,List.set_cons_succ]
      refine takeD (i:=9) (d:=some 33) (v:=?vT39) rfl rfl (by kernel_rfl) (by kernel_rfl) (by kernel_rfl) (fun _ _ _ h=>h) (Or.inl ⟨by rfl,?hyT39⟩) (by assumption) ?rstT39
      case hyT39=>(intro w hSw; (try dsimp only at hSw); go_simp; (try with_reducible rfl))
      try simp only [Act.put,List.setIfInBounds_toArray,List.set_cons_zero,List.set_cons_succ]
      refine takeD (i:=10) (d:=some 34) (v:=?vT40) rfl rfl (by kernel_rfl) (by kernel_rfl) (by kernel_rfl) (fun _ _ _ h=>h) (Or.inl ⟨by rfl,?hyT40⟩) (by assumption) ?rstT40
      case hyT40=>(intro w hSw; (try dsimp only at hSw); go_simp; (try with_reducible rfl))
      try simp only [Act.put,List.setIfInBounds_toArray,List.set_cons_zero,List.set_cons_succ]
      refine takeD (i:=11) (d:=some 35) (v:=?vT41) rfl rfl (by kernel_rfl) (by kernel_rfl) (by kernel_rfl) (fun _ _ _ h=>h) (Or.inl ⟨by rfl,?hyT41⟩) (by assumption) ?rstT41
      case hyT41=>(intro w hSw; (try dsimp only at hSw); go_simp; (try with_reducible rfl))
      try simp only [Act.put,List.setIfInBounds_toArray,List.set_cons_zero,List.set_cons_succ]
      refine wpAnyH_ready (rs:=[12]) (by kernel_rfl) (by simp) ?_
      refine AllReadyH.cons rfl (fun K hK=>?_) AllReadyH.nil
      go_simp
      refine (HT.out _ ?_).mono ?_
      · first | exact hb1 | exact hb1.drew
      rintro e2 w2 ⟨rfl,hw2⟩
      have hb2 : Below w.heap.size w w2:=by rw [hw2]; first | exact hb1 | exact hb1.drew
      have c2 : w2.cell? ⟨ga,off + M * 2 + 1,none⟩ = some (.int .i64 x.2):=(hb2.cell (p:=⟨ga,off + M * 2 + 1,none⟩) hga).trans (HX.out)
      clear hb1 hw2 c1
      have hb1:=hb2
      clear hHeld
      refine hK.out _ _ ?hS42 (fun hHeld=>?rest42)
      case hS42=>(first | exact c1 | exact c2)
      clear hK K
      try simp only [Act.put,List.setIfInBounds_toArray,List.set_cons_zero,List.set_cons_succ]
      refine takeD (i:=13) (d:=some 37) (v:=?vT43) rfl rfl (by kernel_rfl) (by kernel_rfl) (by kernel_rfl) (fun _ _ _ h=>h) (Or.inl ⟨by rfl,?hyT43⟩) (by assumption) ?rstT43
      case hyT43=>(intro w hSw; (try dsimp only at hSw); go_simp; (try with_reducible rfl))
      try simp only [Act.put,List.setIfInBounds_toArray,List.set_cons_zero,List.set_cons_succ]
      refine takeD (i:=14) (d:=some 38) (v:=?vT44) rfl rfl (by kernel_rfl) (by kernel_rfl) (by kernel_rfl) (fun _ _ _ h=>h) (Or.inl ⟨by rfl,?hyT44⟩) (by assumption) ?rstT44
      case hyT44=>(intro w hSw; (try dsimp only at hSw); go_simp; (try with_reducible rfl))
      try simp only [Act.put,List.setIfInBounds_toArray,List.set_cons_zero,List.set_cons_succ]
      refine wpAnyH_done (by kernel_rfl) ?_ _
      have hbd : Below w.heap.size w w2:=by first | exact hb1 | exact hb1.drew
      have c3:=(hbd.cell (p:=⟨q,0,none⟩) hql).trans c0
      clear c0
      go_wp2_with fail
      refine (HBP.out _ hbd).mono ?_
      rintro e w4 ⟨g4,t4,rfl,hA4,hC4,hP4,hr4,hb4⟩
      have hB4:=hbd.trans (hb4.mono hbd.size)
      have hbo:=hC4.bounds (by rw [hr4]; exact HOK.out)
      have hz0 : decide (t4.sm.least < 0) = false:=decide_eq_false (by omega)
      have hz1 : decide (1048576 < t4.sm.most) = false:=decide_eq_false (by omega)
      obtain ⟨z0,z1,z2,z3,z4,z5,z6,z7,z8,z9⟩:=hA4.ten
      have hq4 : w4.heap[q]? = some (.cells #[.pointer (some ⟨g,0,none⟩)] 73):=(hB4.block q hql).trans HQ.out
      have c8 : w4.cell? ⟨q,0,none⟩ = some (.pointer (some ⟨g,0,none⟩)):=by simp [World.cell?,hq4]
      have f8 : w4.frozen? ⟨q,0,none⟩ = false:=frozen_of_row w4 q 0 _ _ hq4
      have HF : Hid (RopeAt (w4.setCell ⟨q,0,none⟩ (.pointer (some ⟨g4,0,none⟩))) q t4):=ropeAt_set hq4 hA4
      have hrl : t4.row.length = t.row.length:=by rw [hr4,bmp_len]
      have hrp : t4.Rp:=⟨hC4,hP4,fun c hc=>(HOK.out c (hr4 ▸ hc)).1,fun c hc=>(HOK.out c (hr4 ▸ hc)).2,by omega⟩
      have HR4 : Hid (t4.row = bmp l _ 0 t.row):=hr4
      clear hr4 hq4 hrl hbo c3 hA4
      go_wp2_with fail
      go_ret
      exact ⟨rfl,⟨t4,HF.out,hrp,HR4.out⟩,(Upd.ofBelow hB4).trans (upd_set q _)⟩
end Go.Proofs.YtijpfbcippijoaaGreatDoor
