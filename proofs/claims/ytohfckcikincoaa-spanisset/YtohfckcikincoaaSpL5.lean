import Derived.Test.YtohfckcikincoaaSpIt
namespace Go.Proofs.Ytohfckcikincoaa
open Go.RowKit Go.Lib
set_option maxRecDepth 100000

theorem below_drw {B : Nat} {a w : World} (h : Below B a w) : Below B a w.drew := ⟨h.os, h.tape, h.output, h.size, h.block⟩
theorem cell_al {W : World} {p : Addr} {x : Value} (h : W.cell? p = some x) (o : Obj) : (W.alloc o).cell? p = some x := (World.cell?_alloc_lt _ _ _ (World.block_lt_of_cell? W p h)).trans h
set_option maxHeartbeats 8000000 in
theorem spanIsSet_any {w : World} {v : Value} {a : Option Addr} {na ca : Nat} {la : List (Int × Int)} {b : Option Addr} {nb cb : Nat} {lb : List (Int × Int)} {pa : Option Addr} {np cp : Nat} {zs : List Int} {at_ n : Int} (hi : InR w v a na ca la b nb cb lb pa np cp zs at_ n) (hcp : np ≤ cp) :
    Calls Try.prog 8 #[v] w fun e w' => e = .returned (.bool true) ∧ Below w.heap.size w w' := by
  have hra := hi.ra
  have hrb := hi.rb
  have hrp := hi.rp.rng hcp
  have hsp := hi.sp
  have hv := hi.val
  subst hv
  clear hi
  have hlp := hrp.len
  have hnum := num_any
  go_enter Try.func8, Try.ntmps8
  go_wp2_with fail
  have hB0 : Below w.heap.size w (w.alloc (.cells #[.slice a na ca, .slice b nb cb, .slice pa np cp, .int .i64 at_, .int .i64 n] 25)) := (Below.refl _ _).alloc (Nat.le_refl _) _
  refine (right_any (hra.below hB0)).mono ?_
  rintro e w1 ⟨o1, no1, co1, P, rfl, hoP, hb1, HP1, hn1⟩
  have hB1 : Below w.heap.size w w1 := hB0.trans (hb1.mono (by simp))
  have hs1 : w.heap.size < w1.heap.size := by have := hb1.size; simp at this; omega
  have x1 : w1.cell? ⟨w.heap.size, 1, none⟩ = some (.slice b nb cb) := (hb1.cell (p := ⟨w.heap.size, 1, none⟩) (by simp)).trans (World.cell?_alloc_mark _ _ _ _ _)
  have x2 : w1.cell? ⟨w.heap.size, 2, none⟩ = some (.slice pa np cp) := (hb1.cell (p := ⟨w.heap.size, 2, none⟩) (by simp)).trans (World.cell?_alloc_mark _ _ _ _ _)
  have x3 : w1.cell? ⟨w.heap.size, 3, none⟩ = some (.int .i64 at_) := (hb1.cell (p := ⟨w.heap.size, 3, none⟩) (by simp)).trans (World.cell?_alloc_mark _ _ _ _ _)
  have x4 : w1.cell? ⟨w.heap.size, 4, none⟩ = some (.int .i64 n) := (hb1.cell (p := ⟨w.heap.size, 4, none⟩) (by simp)).trans (World.cell?_alloc_mark _ _ _ _ _)
  clear hb1 hB0 hra
  go_wp2_with fail
  refine (right_any (hrb.below hB1)).mono ?_
  rintro e w2 ⟨o2, no2, co2, Qp, rfl, hoQ, hb2, HP2, hn2⟩
  have hB2 : Below w.heap.size w w2 := hB1.trans (hb2.mono hB1.size)
  have HC : Hid (w.heap.size < w2.heap.size ∧ w2.cell? ⟨w.heap.size, 2, none⟩ = some (.slice pa np cp) ∧ w2.cell? ⟨w.heap.size, 3, none⟩ = some (.int .i64 at_) ∧ w2.cell? ⟨w.heap.size, 4, none⟩ = some (.int .i64 n)) :=
    ⟨Nat.lt_of_lt_of_le hs1 hb2.size, (hb2.cell (p := ⟨w.heap.size, 2, none⟩) hs1).trans x2, (hb2.cell (p := ⟨w.heap.size, 3, none⟩) hs1).trans x3, (hb2.cell (p := ⟨w.heap.size, 4, none⟩) hs1).trans x4⟩
  replace hoP := hoP.below hb2
  clear hb2 hB1 hrb x1 x2 x3 x4 hs1
  have hlP := hoP.rng.len
  have hlQ := hoQ.rng.len
  go_wp2_with fail
  refine (lawCopied_any hoP.rng (by omega)).mono ?_
  rintro e w3 ⟨a3, c3, rfl, t3, g3⟩
  go_wp2_with fail
  refine (make_parts t3.rng (by omega) HP1.out).mono ?_
  rintro e w4 ⟨A, a4, c4, rfl, hoA, g4, hLA, hMA⟩
  have gg := g3.trans (g4.mono g3.size)
  have G4 : Below w2.heap.size w2 w4 := gg
  replace hoP := hoP.below gg
  replace hoQ := hoQ.below gg
  have HLA : Hid (Lst A) := hLA
  have HMA : Hid (∀ q, Lies A q ↔ Lies P q) := hMA
  have fA : (A.length : Int) ≤ 32768 := by have := hLA.few; omega
  clear g3 g4 gg t3 hLA hMA
  go_wp2_with fail
  refine (lawCopied_any hoQ.rng (by omega)).mono ?_
  rintro e w5 ⟨a5, c5, rfl, t5, g5⟩
  go_wp2_with fail
  refine (make_parts t5.rng (by omega) HP2.out).mono ?_
  rintro e w6 ⟨B, a6, c6, rfl, hoB, g6, hLB, hMB⟩
  have gg := g5.trans (g6.mono g5.size)
  have G6 : Below w2.heap.size w2 w6 := G4.trans (gg.mono G4.size)
  replace hoP := hoP.below gg
  replace hoQ := hoQ.below gg
  replace hoA := hoA.below gg
  have HLB : Hid (Lst B) := hLB
  have HMB : Hid (∀ q, Lies B q ↔ Lies Qp q) := hMB
  have fB : (B.length : Int) ≤ 32768 := by have := hLB.few; omega
  clear g5 g6 gg t5 hLB hMB G4
  go_wp2_with fail
  refine (hnum _ _).mono ?_
  rintro e y1 ⟨rfl, rfl⟩
  go_wp2_with fail
  refine (hnum _ _).mono ?_
  rintro e y2 ⟨rfl, rfl⟩
  go_wp2_with fail
  refine (normal_yes hoA.rng HLA.out).mono ?_
  rintro e w7 ⟨rfl, g7⟩
  have G7 : Below w2.heap.size w2 w7 := G6.trans (g7.mono G6.size)
  replace hoP := hoP.below g7
  replace hoQ := hoQ.below g7
  replace hoA := hoA.below g7
  replace hoB := hoB.below g7
  clear g7 G6
  go_wp2_with fail
  refine (normal_yes hoB.rng HLB.out).mono ?_
  rintro e w8 ⟨rfl, g8⟩
  have G8 : Below w2.heap.size w2 w8 := G7.trans (g8.mono G7.size)
  replace hoP := hoP.below g8
  replace hoQ := hoQ.below g8
  replace hoA := hoA.below g8
  replace hoB := hoB.below g8
  clear g8 G7
  go_wp2_with fail
  refine (awake_any _).mono ?_
  rintro e w9 ⟨rfl, g9⟩
  have G9 : Below w2.heap.size w2 w9 := G8.trans (g9.mono G8.size)
  replace hoP := hoP.below g9
  replace hoQ := hoQ.below g9
  replace hoA := hoA.below g9
  replace hoB := hoB.below g9
  clear g9 G8
  go_wp2_with fail
  refine (copied_own hoA (by omega)).mono ?_
  rintro e pu ⟨bu, du, rfl, su, ru⟩
  go_wp2_with fail
  refine (copied_own (hoB.below ru) (by omega)).mono ?_
  rintro e qu ⟨fu, hu, rfl, uu, mu⟩
  go_wp2_with fail
  refine (union_set (su.below mu).rng uu.rng HLA.out HLB.out).mono ?_
  rintro e vu ⟨U, Nu, Mu, Au, zu⟩
  have gg := (ru.trans (mu.mono ru.size)).trans (zu.mono (ru.trans (mu.mono ru.size)).size)
  have Gu : Below w2.heap.size w2 vu := G9.trans (gg.mono G9.size)
  replace hoP := hoP.below gg
  replace hoQ := hoQ.below gg
  replace hoA := hoA.below gg
  replace hoB := hoB.below gg
  have HNu : Hid (Norm (-1) U) := Nu
  have HMu : Hid (∀ q, Lies U q ↔ Lies A q ∨ Lies B q) := Mu
  have Lu := len_union Nu Mu
  obtain ⟨xu, nu, cxu, cu, rfl, Du⟩ : ∃ x nx cx c, e = .returned (.tuple #[.slice x nx cx, .int .i64 c]) ∧ ((c = 21 ∧ 32768 < U.length) ∨ (c = 0 ∧ nx = U.length ∧ nx ≤ 32768 ∧ Own vu w2.heap.size (.slice x nx cx) U)) := by
    rcases Au with ⟨h1, h2⟩ | ⟨h1, a', c', h2, h3⟩
    · exact ⟨_, _, _, _, h2, .inl ⟨rfl, h1⟩⟩
    · exact ⟨_, _, _, _, h2, .inr ⟨rfl, rfl, h1, h3.mono (Nat.le_trans G9.size (Nat.le_trans ru.size mu.size))⟩⟩
  clear ru mu zu gg su uu Nu Mu Au G9
  go_wp2_with fail
  refine (copied_own hoA (by omega)).mono ?_
  rintro e pm ⟨bm, dm, rfl, sm, rm⟩
  go_wp2_with fail
  refine (copied_own (hoB.below rm) (by omega)).mono ?_
  rintro e qm ⟨fm, hm, rfl, um, mm⟩
  go_wp2_with fail
  refine (meet_set (sm.below mm).rng um.rng HLA.out HLB.out).mono ?_
  rintro e vm ⟨M, Nm, Mm, Am, zm⟩
  have gg := (rm.trans (mm.mono rm.size)).trans (zm.mono (rm.trans (mm.mono rm.size)).size)
  have Gm : Below w2.heap.size w2 vm := Gu.trans (gg.mono Gu.size)
  replace hoP := hoP.below gg
  replace hoQ := hoQ.below gg
  replace hoA := hoA.below gg
  replace hoB := hoB.below gg
  have HNm : Hid (Norm (-1) M) := Nm
  have HMm : Hid (∀ q, Lies M q ↔ Lies A q ∧ Lies B q) := Mm
  have Lm := len_meet Nm Mm
  obtain ⟨xm, nm, cxm, cm, rfl, Dm⟩ : ∃ x nx cx c, e = .returned (.tuple #[.slice x nx cx, .int .i64 c]) ∧ ((c = 21 ∧ 32768 < M.length) ∨ (c = 0 ∧ nx = M.length ∧ nx ≤ 32768 ∧ Own vm w2.heap.size (.slice x nx cx) M)) := by
    rcases Am with ⟨h1, h2⟩ | ⟨h1, a', c', h2, h3⟩
    · exact ⟨_, _, _, _, h2, .inl ⟨rfl, h1⟩⟩
    · exact ⟨_, _, _, _, h2, .inr ⟨rfl, rfl, h1, h3.mono (Nat.le_trans Gu.size (Nat.le_trans rm.size mm.size))⟩⟩
  replace Du : (cu = 21 ∧ 32768 < U.length) ∨ (cu = 0 ∧ nu = U.length ∧ nu ≤ 32768 ∧ Own vm w2.heap.size (.slice xu nu cxu) U) := Du.imp id (fun h => ⟨h.1, h.2.1, h.2.2.1, h.2.2.2.below gg⟩)
  clear rm mm zm gg sm um Nm Mm Am Gu
  go_wp2_with fail
  refine (copied_own hoA (by omega)).mono ?_
  rintro e pd ⟨bd, dd, rfl, sd, rd⟩
  go_wp2_with fail
  refine (copied_own (hoB.below rd) (by omega)).mono ?_
  rintro e qd ⟨fd, hd, rfl, ud, md⟩
  go_wp2_with fail
  refine (minus_set (sd.below md).rng ud.rng HLA.out HLB.out).mono ?_
  rintro e vd ⟨D, Nd, Md, Ad, zd⟩
  have gg := (rd.trans (md.mono rd.size)).trans (zd.mono (rd.trans (md.mono rd.size)).size)
  have Gd : Below w2.heap.size w2 vd := Gm.trans (gg.mono Gm.size)
  replace hoP := hoP.below gg
  replace hoQ := hoQ.below gg
  replace hoA := hoA.below gg
  replace hoB := hoB.below gg
  have HNd : Hid (Norm (-1) D) := Nd
  have HMd : Hid (∀ q, Lies D q ↔ Lies A q ∧ ¬ Lies B q) := Md
  have Ld := len_minus Nd Md
  obtain ⟨xd, nd, cxd, cd, rfl, Dd⟩ : ∃ x nx cx c, e = .returned (.tuple #[.slice x nx cx, .int .i64 c]) ∧ ((c = 21 ∧ 32768 < D.length) ∨ (c = 0 ∧ nx = D.length ∧ nx ≤ 32768 ∧ Own vd w2.heap.size (.slice x nx cx) D)) := by
    rcases Ad with ⟨h1, h2⟩ | ⟨h1, a', c', h2, h3⟩
    · exact ⟨_, _, _, _, h2, .inl ⟨rfl, h1⟩⟩
    · exact ⟨_, _, _, _, h2, .inr ⟨rfl, rfl, h1, h3.mono (Nat.le_trans Gm.size (Nat.le_trans rd.size md.size))⟩⟩
  replace Du : (cu = 21 ∧ 32768 < U.length) ∨ (cu = 0 ∧ nu = U.length ∧ nu ≤ 32768 ∧ Own vd w2.heap.size (.slice xu nu cxu) U) := Du.imp id (fun h => ⟨h.1, h.2.1, h.2.2.1, h.2.2.2.below gg⟩)
  replace Dm : (cm = 21 ∧ 32768 < M.length) ∨ (cm = 0 ∧ nm = M.length ∧ nm ≤ 32768 ∧ Own vd w2.heap.size (.slice xm nm cxm) M) := Dm.imp id (fun h => ⟨h.1, h.2.1, h.2.2.1, h.2.2.2.below gg⟩)
  clear rd md zd gg sd ud Nd Md Ad Gm
  rcases Du with ⟨rfl, hu⟩ | ⟨rfl, hnu, hu2, hoU⟩
  · have hbig : (32768 : Int) < (A.length : Int) + (B.length : Int) := by omega
    have hBd := hB2.trans (Gd.mono hB2.size)
    clear Lu Lm Ld Dm Dd hu hn1 hn2 hsp
    go_wp2_with fail
    refine (hnum _ _).mono ?_
    rintro e y3 ⟨rfl, rfl⟩
    go_wp2_with fail
    go_ret
    first
      | exact ⟨rfl, hBd⟩
      | exact ⟨congrArg (fun b => Ending.returned (.bool b)) (decide_eq_true hbig), hBd⟩
  · rcases Dm with ⟨rfl, hm⟩ | ⟨rfl, hnm, hm2, hoM⟩
    · have hbig : (32768 : Int) < (A.length : Int) + (B.length : Int) := by omega
      have hBd := hB2.trans (Gd.mono hB2.size)
      clear Lu Lm Ld Dd hm hn1 hn2 hsp hnu hu2
      go_wp2_with fail
      refine (hnum _ _).mono ?_
      rintro e y3 ⟨rfl, rfl⟩
      go_wp2_with fail
      refine (hnum _ _).mono ?_
      rintro e y4 ⟨rfl, rfl⟩
      go_wp2_with fail
      go_ret
      first
        | exact ⟨rfl, hBd⟩
        | exact ⟨congrArg (fun b => Ending.returned (.bool b)) (decide_eq_true hbig), hBd⟩
    · rcases Dd with ⟨rfl, hd⟩ | ⟨rfl, hnd, hd2, hoD⟩
      · have hbig : (32768 : Int) < (A.length : Int) + (B.length : Int) := by omega
        have hBd := hB2.trans (Gd.mono hB2.size)
        clear Lu Lm Ld hd hn1 hn2 hsp hnu hu2 hnm hm2
        go_wp2_with fail
        refine (hnum _ _).mono ?_
        rintro e y3 ⟨rfl, rfl⟩
        go_wp2_with fail
        refine (hnum _ _).mono ?_
        rintro e y4 ⟨rfl, rfl⟩
        go_wp2_with fail
        refine (hnum _ _).mono ?_
        rintro e y5 ⟨rfl, rfl⟩
        go_wp2_with fail
        go_ret
        first
          | exact ⟨rfl, hBd⟩
          | exact ⟨congrArg (fun b => Ending.returned (.bool b)) (decide_eq_true hbig), hBd⟩
      · subst hnu hnm hnd
        have HLU : Hid (Lst U) := lst_of HNu.out (fun q hq => by rcases (HMu.out q).1 hq with h | h; exact (lst_lies HLA.out h).2; exact (lst_lies HLB.out h).2) hu2
        have HLM : Hid (Lst M) := lst_of HNm.out (fun q hq => (lst_lies HLA.out ((HMm.out q).1 hq).1).2) hm2
        have HLD : Hid (Lst D) := lst_of HNd.out (fun q hq => (lst_lies HLA.out ((HMd.out q).1 hq).1).2) hd2
        clear Lu Lm Ld hu2 hm2 hd2
        go_wp2_with fail
        refine (hnum _ _).mono ?_
        rintro e y3 ⟨rfl, rfl⟩
        go_wp2_with fail
        refine (hnum _ _).mono ?_
        rintro e y4 ⟨rfl, rfl⟩
        go_wp2_with fail
        refine (hnum _ _).mono ?_
        rintro e y5 ⟨rfl, rfl⟩
        go_wp2_with fail
        refine (normal_yes hoU.rng HLU.out).mono ?_
        rintro e k0 ⟨rfl, gk0⟩
        have GN0 : Below w2.heap.size w2 k0 := Gd.trans (gk0.mono Gd.size)
        replace hoP := hoP.below gk0
        replace hoQ := hoQ.below gk0
        replace hoA := hoA.below gk0
        replace hoB := hoB.below gk0
        replace hoU := hoU.below gk0
        replace hoM := hoM.below gk0
        replace hoD := hoD.below gk0
        clear gk0 Gd
        go_wp2_with fail
        refine (normal_yes hoM.rng HLM.out).mono ?_
        rintro e k1 ⟨rfl, gk1⟩
        have GN1 : Below w2.heap.size w2 k1 := GN0.trans (gk1.mono GN0.size)
        replace hoP := hoP.below gk1
        replace hoQ := hoQ.below gk1
        replace hoA := hoA.below gk1
        replace hoB := hoB.below gk1
        replace hoU := hoU.below gk1
        replace hoM := hoM.below gk1
        replace hoD := hoD.below gk1
        clear gk1 GN0
        go_wp2_with fail
        refine (normal_yes hoD.rng HLD.out).mono ?_
        rintro e k2 ⟨rfl, gk2⟩
        have GN2 : Below w2.heap.size w2 k2 := GN1.trans (gk2.mono GN1.size)
        replace hoP := hoP.below gk2
        replace hoQ := hoQ.below gk2
        replace hoA := hoA.below gk2
        replace hoB := hoB.below gk2
        replace hoU := hoU.below gk2
        replace hoM := hoM.below gk2
        replace hoD := hoD.below gk2
        clear gk2 GN1
        have hBk := hB2.trans (GN2.mono hB2.size)
        obtain ⟨hlt, x2, x3, x4⟩ := HC.out
        have hltk : w.heap.size < k2.heap.size := Nat.lt_of_lt_of_le hlt GN2.size
        have c2 := (GN2.cell (p := ⟨w.heap.size, 2, none⟩) hlt).trans x2
        have c3 := (GN2.cell (p := ⟨w.heap.size, 3, none⟩) hlt).trans x3
        have c4 := (GN2.cell (p := ⟨w.heap.size, 4, none⟩) hlt).trans x4
        clear x2 x3 x4 hlt
        obtain ⟨an, han⟩ : ∃ z, IntKind.i64.wrap (at_ + n) = z := ⟨_, rfl⟩
        go_upto_region 14 with fail
        go_cut [15] (fun v wx => ∃ (s : Option Addr) (ns cs : Nat) (ys : List Int), v = .slice s ns cs ∧ OwnI wx k2.heap.size (.slice s ns cs) ys ∧ Below k2.heap.size k2 wx)
        case first =>
          have HNQ : Hid (∀ (W : World) (s : Option Addr) (ns cs : Nat) (ys : List Int), Below k2.heap.size k2 W → RngI W s ns cs ys → ns = np + 2 → Calls Try.prog 30 #[.slice o2 no2 co2, .slice s ns cs] W fun e w' => NearP W ns e w') := fun W s ns cs ys hW hr hns => near_any (hoQ.rng.below hW) HP2.out hn2 hr (by omega)
          have HNP : Hid (∀ (W : World) (s : Option Addr) (ns cs : Nat) (ys : List Int), Below k2.heap.size k2 W → RngI W s ns cs ys → ns ≤ np + 2 + 246 → Calls Try.prog 30 #[.slice o1 no1 co1, .slice s ns cs] W fun e w' => NearP W ns e w') := fun W s ns cs ys hW hr hns => near_any (hoP.rng.below hW) HP1.out hn1 hr (by omega)
          have HCI : Hid (∀ W, Below w.heap.size w W → Calls Try.prog 31 #[.slice pa np cp] W _) := fun W hW => copiedInts_any (hrp.below hW) (by omega)
          have HAP : ∀ (W W1 : World) (s : Option Addr) (cs : Nat) (k : Nat), Below k2.heap.size k2 W → OwnI W k2.heap.size (.slice s np cs) zs → RngI W (some ⟨k, 0, none⟩) 2 2 [at_, an] → W1 = W → ∃ v' w', (Builtin.append_ #[23, 23] 23 #[.slice s np cs, .slice (some ⟨k, 0, none⟩) 2 2]).run Try.prog W1 = .ok v' w' ∧ (∃ a'' co'', v' = .slice a'' (np + 2) co'' ∧ OwnI w' k2.heap.size (.slice a'' (np + 2) co'') (zs ++ [at_, an]) ∧ Below k2.heap.size k2 w') := fun W W1 s cs k hW ho hr e => by
            subst e
            obtain ⟨a'', co'', w', hr', ho', hb'⟩ := appendI ho hW.size hr (by omega) 23
            exact ⟨_, w', hr', a'', co'', rfl, ho', hW.trans hb'⟩
          have hB2k : Below k2.heap.size k2 k2.drew := below_drw (Below.refl _ _)
          clear hoP hoQ hoA hoB hoU hoM hoD HLA HLB HMA HMB HLU HLM HLD HNu HNm HNd HMu HMm HMd HP1 HP2 fA fB hn1 hn2 hsp hnum hlP hlQ hlp hrp HC hcp GN2
          go_region_held3 (fun W => W.cell? ⟨w.heap.size, 2, none⟩ = some (.slice pa np cp) ∧ W.cell? ⟨w.heap.size, 3, none⟩ = some (.int .i64 at_) ∧ W.cell? ⟨w.heap.size, 4, none⟩ = some (.int .i64 n)) (first | exact ⟨c2, c3, c4⟩ | exact ⟨e2, e3, e4⟩ | exact ⟨cell_al e2 _, cell_al e3 _, cell_al e4 _⟩ | exact ⟨cell_al c2 _, cell_al c3 _, cell_al c4 _⟩)
            (first
              | (go_at_call 30; refine (HNP.out _ _ _ _ _ G3 hoZ3.rng hz3).mono ?_; rintro e v4 ⟨s4, ns4, cs4, zs4, rfl, hoZ4, g4, hz4⟩; have G4 := G3.trans (g4.mono G3.size); have e2 := (G4.cell (p := ⟨w.heap.size, 2, none⟩) hltk).trans c2; have e3 := (G4.cell (p := ⟨w.heap.size, 3, none⟩) hltk).trans c3; have e4 := (G4.cell (p := ⟨w.heap.size, 4, none⟩) hltk).trans c4)
              | (go_at_call 30; refine (HNQ.out _ _ _ _ _ G2 hoZ2.rng rfl).mono ?_; rintro e v3 ⟨s3, ns3, cs3, zs3, rfl, hoZ3, g3, hz3⟩; have G3 := G2.trans (g3.mono G2.size); have e2 := (G3.cell (p := ⟨w.heap.size, 2, none⟩) hltk).trans c2; have e3 := (G3.cell (p := ⟨w.heap.size, 3, none⟩) hltk).trans c3; have e4 := (G3.cell (p := ⟨w.heap.size, 4, none⟩) hltk).trans c4)
              | (go_at_call 31; refine (HCI.out _ ?_).mono ?_; (first | exact below_drw hBk | exact (below_drw hBk).alloc hBk.size _); rintro e v1 ⟨s1, cs1, rfl, hoZ1, g1⟩; have G1 : Below k2.heap.size k2 v1 := (by first | exact hB2k.trans g1 | exact (hB2k.alloc (Nat.le_refl _) _).trans (g1.mono (by simp))); have hoZ1' : OwnI v1 k2.heap.size (.slice s1 np cs1) zs := (by first | exact hoZ1 | exact hoZ1.mono (by simp)); have e2 := (G1.cell (p := ⟨w.heap.size, 2, none⟩) hltk).trans c2; have e3 := (G1.cell (p := ⟨w.heap.size, 3, none⟩) hltk).trans c3; have e4 := (G1.cell (p := ⟨w.heap.size, 4, none⟩) hltk).trans c4)
              | (refine step_append_ex (by rfl) _ _ 23 (by rfl) (.slice s1 np cs1) (.slice (some ⟨v1.heap.size, 0, none⟩) 2 2) ?h1 ?h2 (HAP (v1.alloc (.cells #[.int .i64 at_, .int .i64 an] 3)) _ s1 cs1 v1.heap.size (G1.alloc G1.size _) (hoZ1'.below ((Below.refl _ _).alloc (Nat.le_refl _) _)) (rngI_lit2 v1 at_ an 3) rfl) ?_; (exact rfl); (exact rfl); rintro v' w' ⟨a2, co2', rfl, hoZ2, G2⟩; have e2 := (G2.cell (p := ⟨w.heap.size, 2, none⟩) hltk).trans c2; have e3 := (G2.cell (p := ⟨w.heap.size, 3, none⟩) hltk).trans c3; have e4 := (G2.cell (p := ⟨w.heap.size, 4, none⟩) hltk).trans c4)
              | (refine step_append_ex (by rfl) _ _ 23 (by rfl) (.slice s1 np cs1) (.slice (some ⟨k2.heap.size, 0, none⟩) 2 2) ?h3 ?h4 (HAP v1 _ s1 cs1 k2.heap.size G1 hoZ1' ((rngI_lit2 k2.drew at_ an 3).below g1) rfl) ?_; (exact rfl); (exact rfl); rintro v' w' ⟨a2, co2', rfl, hoZ2, G2⟩; have e2 := (G2.cell (p := ⟨w.heap.size, 2, none⟩) hltk).trans c2; have e3 := (G2.cell (p := ⟨w.heap.size, 3, none⟩) hltk).trans c3; have e4 := (G2.cell (p := ⟨w.heap.size, 4, none⟩) hltk).trans c4))
          all_goals (go_wp2_with fail; go_meet; case rel => exact ⟨s4, ns4, cs4, zs4, rfl, hoZ4.mono G3.size, G4⟩)
        case rest =>
          obtain ⟨s, ns, cs, ys, rfl, hoS, gS⟩ := hcut
          have hBc := hBk.trans (gS.mono hBk.size)
          have k3 := (gS.cell (p := ⟨w.heap.size, 3, none⟩) hltk).trans c3
          have k4 := (gS.cell (p := ⟨w.heap.size, 4, none⟩) hltk).trans c4
          have hltc : w.heap.size < wc.heap.size := Nat.lt_of_lt_of_le hltk gS.size
          replace hoP := hoP.below gS
          replace hoQ := hoQ.below gS
          replace hoA := hoA.below gS
          replace hoB := hoB.below gS
          replace hoU := hoU.below gS
          replace hoM := hoM.below gS
          replace hoD := hoD.below gS
          have hrS := hoS.rng
          have fs : (ns : Int) ≤ 9223372036854775807 := by have := hrS.room; simp only [maxLen] at this; omega
          clear c2 c3 c4 gS hBk GN2 hltk hoS
          go_wp2_with fail
          go_loopw [16] (fun vi w' => ∃ j : Nat, j ≤ ns ∧ vi = .int .i64 j ∧ Below wc.heap.size wc w') (fun i _ => ns - (RowKit.intOf i).toNat)
          case atStart => exact ⟨0, Nat.zero_le _, rfl, Below.refl _ _⟩
          case round =>
            obtain ⟨j, hjn, rfl, hB⟩ := hrel
            by_cases hj : j < ns
            · obtain ⟨g, off, rfl, hg, hc⟩ := hrS.cells j hj
              have c0 := (hB.cell (p := ⟨g, off + j, none⟩) hg).trans hc
              clear hc
              generalize ys.getD j 0 = q at *
              obtain ⟨x, hx⟩ := bool_of (Lies A q)
              obtain ⟨y, hy⟩ := bool_of (Lies B q)
              have H1 : Hid (∀ W, Below wc.heap.size wc W → Calls Try.prog 20 #[.slice a4 A.length c4, .int .i64 q] W _) := fun W hb => lies_is (hoA.rng.below hb) q x hx
              have H2 : Hid (∀ W, Below wc.heap.size wc W → Calls Try.prog 20 #[.slice o1 no1 co1, .int .i64 q] W _) := fun W hb => lies_is (hoP.rng.below hb) q x (hx.trans (HMA.out q))
              have H3 : Hid (∀ W, Below wc.heap.size wc W → Calls Try.prog 20 #[.slice a6 B.length c6, .int .i64 q] W _) := fun W hb => lies_is (hoB.rng.below hb) q y hy
              have H4 : Hid (∀ W, Below wc.heap.size wc W → Calls Try.prog 20 #[.slice o2 no2 co2, .int .i64 q] W _) := fun W hb => lies_is (hoQ.rng.below hb) q y (hy.trans (HMB.out q))
              have H5 : Hid (∀ W, Below wc.heap.size wc W → Calls Try.prog 32 #[.slice a4 A.length c4, .slice a6 B.length c6, .slice xu U.length cxu, .slice xm M.length cxm, .slice xd D.length cxd, .int .i64 q] W _) := fun W hb => inAll_any (hoA.rng.below hb) (hoB.rng.below hb) (hoU.rng.below hb) (hoM.rng.below hb) (hoD.rng.below hb) q (HMu.out q) (HMm.out q) (HMd.out q)
              clear hx hy
              cases x <;> cases y
              all_goals
                go_wp2_with fail
                refine (H1.out _ hB).mono ?_
                rintro e m1 ⟨rfl, r1⟩
                have b1 := hB.trans (r1.mono hB.size)
                go_wp2_with fail
                refine (H2.out _ b1).mono ?_
                rintro e m2 ⟨rfl, r2⟩
                have b2 := b1.trans (r2.mono b1.size)
                go_wp2_with fail
                refine (H3.out _ b2).mono ?_
                rintro e m3 ⟨rfl, r3⟩
                have b3 := b2.trans (r3.mono b2.size)
                go_wp2_with fail
                refine (H4.out _ b3).mono ?_
                rintro e m4 ⟨rfl, r4⟩
                have b4 := b3.trans (r4.mono b3.size)
                go_wp2_with fail
                refine (H5.out _ b4).mono ?_
                rintro e m5 ⟨rfl, r5⟩
                have b5 := b4.trans (r5.mono b4.size)
                clear r1 r2 r3 r4 r5 b1 b2 b3 b4 H1 H2 H3 H4 H5 c0
                go_wp2_with fail
                refine ⟨⟨j + 1, by omega, by go_num, b5⟩, ?_⟩
                simp [RowKit.intOf]
                omega
            · have e3 := (hB.cell (p := ⟨w.heap.size, 3, none⟩) hltc).trans k3
              have e4 := (hB.cell (p := ⟨w.heap.size, 4, none⟩) hltc).trans k4
              have HCA : Hid (Calls Try.prog 33 #[.slice a4 A.length c4, .int .i64 at_, .int .i64 n, .slice s ns cs] wr _) := carries_any (hoA.below hB) HLA.out (hrS.below hB) at_ n
              go_wp2_with fail
              refine HCA.out.mono ?_
              rintro e m1 ⟨rfl, r1⟩
              have b1 := hB.trans (r1.mono hB.size)
              go_wp2_with fail
              go_ret
              exact ⟨rfl, hBc.trans (b1.mono hBc.size)⟩
end Go.Proofs.Ytohfckcikincoaa
