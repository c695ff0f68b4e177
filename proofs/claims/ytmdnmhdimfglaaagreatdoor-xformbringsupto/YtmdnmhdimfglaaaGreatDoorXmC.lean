import Derived.Test.YtmdnmhdimfglaaaGreatDoorXmB
import Derived.Test.YtmdnmhdimfglaaaGreatDoorXjK
namespace Go.Proofs.YtmdnmhdimfglaaaGreatDoor
open Go.RowKit Go.Lib
set_option maxRecDepth 100000
set_option maxHeartbeats 4000000 in
theorem gbring_err1 {w : World} {a : Option Addr} {n cap : Nat} {L : List OpM} (hL : Rw opF 9 w a n cap L) (rL : ∀ x ∈ L, OpOk w x) {fr tt_ : Int} (he : errs L ≠ 0) : Calls Tryz.prog 58 #[.slice a n cap, .int .i64 fr, .int .i64 tt_] w fun e w' => AnsB w ([], errs L) e w' := by
  have HE1 : Hid (∀ W, Below w.heap.size w W → Calls Tryz.prog 48 #[.slice a n cap] W fun e w' => e = .returned (.int .i64 (errs L)) ∧ Below W.heap.size W w') := fun W hb => gown_any (hL.below hb) (fun x hx => (rL x hx).below hb)
  unfold AnsB
  simp only
  generalize errs L = z at *
  clear hL rL
  have t1 : (z == 0) = false := beq_eq_false_iff_ne.2 he
  have t2 : (z != 0) = true := by simp [bne, t1]
  have t3 : decide (z = 0) = false := decide_eq_false he
  go_enter Tryz.func58, Tryz.ntmps58
  go_wp2_with fail
  refine (HE1.out _ (Below.refl _ _)).mono ?_
  rintro e w1 ⟨rfl, b1⟩
  clear HE1
  go_wp2_with fail
  refine bodyPost_ret (v := .tuple #[.slice none 0 0, .int .i64 z]) (by simp [results, Tryz.results58, go_sem]) rfl ⟨none, 0, 0, rfl, runIn_nil _, b1⟩
set_option maxHeartbeats 4000000 in
theorem gbring_err2 {w : World} {a : Option Addr} {n cap : Nat} {L : List OpM} (hL : Rw opF 9 w a n cap L) (rL : ∀ x ∈ L, OpOk w x) {fr tt_ : Int} (h0 : errs L = 0) (he : fr < 0 ∨ (n : Int) ≤ fr ∨ tt_ < 0 ∨ (n : Int) ≤ tt_) : Calls Tryz.prog 58 #[.slice a n cap, .int .i64 fr, .int .i64 tt_] w fun e w' => AnsB w ([], 12) e w' := by
  have HE1 : Hid (∀ W, Below w.heap.size w W → Calls Tryz.prog 48 #[.slice a n cap] W fun e w' => e = .returned (.int .i64 (errs L)) ∧ Below W.heap.size W w') := fun W hb => gown_any (hL.below hb) (fun x hx => (rL x hx).below hb)
  rw [h0] at HE1
  unfold AnsB
  simp only
  clear hL rL h0
  have HEE : Hid (fr < 0 ∨ (n : Int) ≤ fr ∨ tt_ < 0 ∨ (n : Int) ≤ tt_) := he
  clear he
  go_enter Tryz.func58, Tryz.ntmps58
  go_wp2_with fail
  refine (HE1.out _ (Below.refl _ _)).mono ?_
  rintro e w1 ⟨rfl, b1⟩
  clear HE1
  by_cases c1 : fr < 0
  · clear HEE
    go_wp2_with fail
    refine bodyPost_ret (v := .tuple #[.slice none 0 0, .int .i64 12]) (by simp [results, Tryz.results58, go_sem]) rfl ⟨none, 0, 0, rfl, runIn_nil _, b1⟩
  · have d1 : decide (fr < 0) = false := decide_eq_false c1
    by_cases c3 : tt_ < 0
    · clear HEE
      go_wp2_with fail
      refine bodyPost_ret (v := .tuple #[.slice none 0 0, .int .i64 12]) (by simp [results, Tryz.results58, go_sem]) rfl ⟨none, 0, 0, rfl, runIn_nil _, b1⟩
    · have d3 : decide (tt_ < 0) = false := decide_eq_false c3
      by_cases c2 : (n : Int) ≤ fr
      · clear HEE
        go_wp2_with fail
        refine bodyPost_ret (v := .tuple #[.slice none 0 0, .int .i64 12]) (by simp [results, Tryz.results58, go_sem]) rfl ⟨none, 0, 0, rfl, runIn_nil _, b1⟩
      · have d2 : decide ((n : Int) ≤ fr) = false := decide_eq_false c2
        have c4 : (n : Int) ≤ tt_ := by have := HEE.out; omega
        clear HEE
        go_wp2_with fail
        refine bodyPost_ret (v := .tuple #[.slice none 0 0, .int .i64 12]) (by simp [results, Tryz.results58, go_sem]) rfl ⟨none, 0, 0, rfl, runIn_nil _, b1⟩
set_option maxHeartbeats 32000000 in
theorem gbring_run {w : World} {a : Option Addr} {n cap : Nat} {L : List OpM} (hL : Rw opF 9 w a n cap L) (rL : ∀ x ∈ L, OpOk w x) {f0 t : Nat} (hn : n ≤ 1048576) (h0 : errs L = 0) (hf : f0 < n) (ht : t < n) : Calls Tryz.prog 58 #[.slice a n cap, .int .i64 (f0 : Int), .int .i64 (t : Int)] w fun e w' => AnsB w (bringR t (brD f0 t) (L.map (·.1)) f0) e w' := by
  have HE1 : Hid (∀ W, Below w.heap.size w W → Calls Tryz.prog 48 #[.slice a n cap] W fun e w' => e = .returned (.int .i64 (errs L)) ∧ Below W.heap.size W w') := fun W hb => gown_any (hL.below hb) (fun x hx => (rL x hx).below hb)
  rw [h0] at HE1
  have ln := hL.len
  have HCL : Hid (∀ W, Below w.heap.size w W → Calls Tryz.prog 54 #[.slice a n cap] W fun e w' => ∃ va vc L', e = .returned (.slice va n vc) ∧ OwnF opF 9 34 w' W.heap.size (.slice va n vc) L' ∧ L'.map (·.1) = L.map (·.1) ∧ (∀ x ∈ L', Rdy w' x) ∧ OwnRs w' W.heap.size L' ∧ Below W.heap.size W w') := fun W hb =>
    (copyRun_any (hL.below hb) (fun x hx => opOk_rdy ((rL x hx).below hb)) hn).mono fun e w' ⟨va, vc, L', he, ho, hl, hr, hb2⟩ => ⟨va, vc, L', he, ho, hl, fun x hx => by
      have h1 : x.1 ∈ L.map (·.1) := by rw [← hl]; exact List.mem_map_of_mem hx
      obtain ⟨y, hy, e1⟩ := List.mem_map.1 h1
      have h2 := opOk_rdy (rL y hy)
      exact ⟨rng_of_rw ((hr x hx).rw_ layG), by rw [← e1]; exact h2.few, by rw [← e1]; exact h2.size⟩, hr, hb2⟩
  have HS0 : Hid (BrS (bringR t (brD f0 t) (L.map (·.1)) f0) n t f0 (L.map (·.1)) ∧ ∀ x ∈ L.map (·.1), x.s.size ≤ 2097152) := ⟨⟨by rw [List.length_map]; exact ln, hf, ht, firstErr_all (show firstErr (L.map (·.1)) = 0 from h0), rfl⟩, fun x hx => by obtain ⟨y, hy, rfl⟩ := List.mem_map.1 hx; exact (rL y hy).2.2⟩
  generalize bringR t (brD f0 t) (L.map (·.1)) f0 = fin at *
  clear hL rL h0 ln
  generalize L.map (·.1) = LV at *
  unfold AnsB
  have d1 : decide ((f0 : Int) < 0) = false := decide_eq_false (by omega)
  have d2 : decide ((n : Int) ≤ (f0 : Int)) = false := decide_eq_false (by omega)
  have d3 : decide ((t : Int) < 0) = false := decide_eq_false (by omega)
  have d4 : decide ((n : Int) ≤ (t : Int)) = false := decide_eq_false (by omega)
  go_enter Tryz.func58, Tryz.ntmps58
  go_wp2_with fail
  refine (HE1.out _ (Below.refl _ _)).mono ?_
  rintro e w1 ⟨rfl, b1⟩
  go_wp2_with fail
  refine (HCL.out _ b1).mono ?_
  rintro e w3 ⟨a1, c1, LM, rfl, ho1, rfl, hr1, hq1, h3⟩
  have b3 := b1.trans (h3.mono b1.size)
  have HM0 : Hid (MemB w a1 n c1 w3 LM) := ⟨ho1.mono b1.size, fun x hx => ⟨hr1 x hx, fun hp ad ad0 e e0 => own_apart ho1 (hq1 x hx) (by decide) e e0⟩, b3⟩
  clear ho1 hr1 hq1 b1 b3 h3 HE1 HCL d1 d2 d3 d4
  go_wp2_with fail
  go_loopw [1] (fun v1 W => ∃ (f : Nat) (LM : List OpM), v1 = .int .i64 (f : Int) ∧ f < n ∧ Hid (BrS fin n t f (LM.map (·.1)) ∧ ∀ x ∈ LM.map (·.1), x.s.size ≤ 2097152) ∧ Hid (MemB w a1 n c1 W LM)) (fun v1 _ => brD (RowKit.intOf v1).toNat t)
  case atStart => exact ⟨f0, LM, rfl, hf, HS0, HM0⟩
  case round =>
    clear HS0 HM0
    obtain ⟨f, LM, rfl, hfn, HS, HM⟩ := hrel
    by_cases hne : f = t
    · subst hne
      obtain rfl := brs_end HS.out.1
      have hM := HM.out
      have e1 : ((f : Int) != (f : Int)) = false := by simp
      have HR1 : Hid (RunIn wr a1 n c1 (LM.map (·.1)) ∧ Below w.heap.size w wr) := ⟨runIn_mem hM.own (fun x hx => (hM.rd x hx).1), hM.bel⟩
      clear hM HM HS
      go_wp2_with fail
      refine bodyPost_ret (v := .tuple #[.slice a1 n c1, .int .i64 0]) (by simp [results, Tryz.results58, go_sem]) rfl ⟨_, _, _, rfl, HR1.out⟩
    · have e1 : ((f : Int) == (t : Int)) = false := beq_eq_false_iff_ne.2 (by omega)
      have e2 : ((f : Int) != (t : Int)) = true := by simp [bne, e1]
      have hM := HM.out
      obtain ⟨hbs, hsz⟩ := HS.out
      have hi1 := brs_at hbs hne
      have lL : LM.length = n := (hM.own.rw_ layO).len
      obtain ⟨g, cc1, q1, _⟩ := hM.own.ptr (by omega)
      simp only [Value.slice.injEq] at q1
      obtain ⟨rfl, en1, rfl⟩ := q1
      clear en1
      have hdd : brD (brF f t) t < brD f t := by unfold brD brF; split <;> omega
      have hff : brF f t < n := by have := hbs.tt; unfold brF; split <;> omega
      obtain ⟨tb, htb⟩ : ∃ tb, decide ((t : Int) < (f : Int)) = tb := ⟨_, rfl⟩
      have HTT : Hid (tb = true → (f : Int) - 1 = (brF f t : Int) ∧ (f : Int) - 1 = (brI f t : Int)) := fun e => by subst e; have := of_decide_eq_true htb; unfold brF brI; rw [if_pos (by omega), if_pos (by omega)]; omega
      have HTF : Hid (tb = false → (f : Int) + 1 = (brF f t : Int) ∧ (f : Int) = (brI f t : Int)) := fun e => by subst e; have := of_decide_eq_false htb; unfold brF brI; rw [if_neg (by omega), if_neg (by omega)]; omega
      obtain ⟨x, hx⟩ : ∃ x, LM[brI f t]? = some x := ⟨_, List.getElem?_eq_getElem (by omega)⟩
      obtain ⟨y, hy⟩ : ∃ y, LM[brI f t + 1]? = some y := ⟨_, List.getElem?_eq_getElem (by omega)⟩
      have hxm : (LM.map (·.1))[brI f t]? = some x.1 := by rw [List.getElem?_map, hx]; rfl
      have hym : (LM.map (·.1))[brI f t + 1]? = some y.1 := by rw [List.getElem?_map, hy]; rfl
      obtain ⟨nb, ng⟩ := brs_next hbs hne hxm hym
      have ox : Right x.1 := hbs.rt _ (List.mem_of_getElem? hxm)
      have oy : Right y.1 := hbs.rt _ (List.mem_of_getElem? hym)
      have sx := hsz _ (List.mem_of_getElem? hxm)
      have sy := hsz _ (List.mem_of_getElem? hym)
      have HS3 : Hid ((transP x.1 y.1).2 = 0 → ∀ (va : Option Addr) (vm vc : Nat) (ua : Option Addr) (um uc : Nat), BrS fin n t (brF f t) (((LM.set (brI f t) ((transP x.1 y.1).1.1, (va, vm, vc))).set (brI f t + 1) ((transP x.1 y.1).1.2, (ua, um, uc))).map (·.1)) ∧ ∀ z ∈ (((LM.set (brI f t) ((transP x.1 y.1).1.1, (va, vm, vc))).set (brI f t + 1) ((transP x.1 y.1).1.2, (ua, um, uc))).map (·.1)), z.s.size ≤ 2097152) := fun e va vm vc ua um uc => by
        rw [List.map_set, List.map_set]
        refine ⟨ng e, fun z hz => ?_⟩
        have hts := transP_s x.1 y.1
        rcases List.mem_or_eq_of_mem_set hz with hz | rfl
        · rcases List.mem_or_eq_of_mem_set hz with hz | rfl
          · exact hsz z hz
          · have := hts.1; simp only; omega
        · have := hts.2; simp only; omega
      have HS5 : Hid ((transP x.1 y.1).2 ≠ 0 → fin = ([], (transP x.1 y.1).2)) := nb
      have rx := (hM.rd x (List.mem_of_getElem? hx)).1
      have ry := (hM.rd y (List.mem_of_getElem? hy)).1
      have HI : Hid (∀ W, Below wr.heap.size wr W → Calls Tryz.prog 52 #[opVal x.1 (.slice x.2.1 x.2.2.1 x.2.2.2), opVal y.1 (.slice y.2.1 y.2.2.1 y.2.2.2)] W fun e w' => ∃ va vm vc ua um uc, e = .returned (.tuple #[opVal (transP x.1 y.1).1.1 (.slice va vm vc), opVal (transP x.1 y.1).1.2 (.slice ua um uc), .int .i64 (transP x.1 y.1).2]) ∧ OwnF rangeV 2 91 w' W.heap.size (.slice va vm vc) (transP x.1 y.1).1.1.l ∧ OwnF rangeV 2 91 w' W.heap.size (.slice ua um uc) (transP x.1 y.1).1.2.l ∧ Below W.heap.size W w') := fun W hb => transpose_any (rx.rng.below hb) (ry.rng.below hb) (by have h1 := rx.rng.len; have h2 := ox.few; omega) (by have h1 := ry.rng.len; have h2 := oy.few; omega) sx sy ox oy
      have hfx : (transP x.1 y.1).1.1.l.length ≤ 1000000000 ∧ (transP x.1 y.1).1.1.s.size ≤ 281474976710656 := by
        have := (transP_few ox oy).1
        have := (transP_s x.1 y.1).1
        omega
      have hfy : (transP x.1 y.1).1.2.l.length ≤ 1000000000 ∧ (transP x.1 y.1).1.2.s.size ≤ 281474976710656 := by
        have := (transP_few ox oy).2
        have := (transP_s x.1 y.1).2
        omega
      have HST : Hid (∀ (w5 : World) (va : Option Addr) (vm vc : Nat) (ua : Option Addr) (um uc : Nat), Below wr.heap.size wr w5 → Src (.slice y.2.1 y.2.2.1 y.2.2.2) y.1.l wr w5 (.slice va vm vc) (transP x.1 y.1).1.1.l → Src (.slice x.2.1 x.2.2.1 x.2.2.2) x.1.l wr w5 (.slice ua um uc) (transP x.1 y.1).1.2.l → _) := fun w5 va vm vc ua um uc hb s1 s2 => memb_step (o1 := (transP x.1 y.1).1.1) (o2 := (transP x.1 y.1).1.2) hM hx hy hb s1 s2 hfx hfy
      have HDD : Hid (brD (brF f t) t < brD f t) := hdd
      have hg1 : g < wr.heap.size := hM.own.lt rfl
      clear hdd HS hbs nb ng hxm hym HM lL ox oy rx ry hfx hfy hne sx sy hsz
      generalize brF f t = nf at *
      generalize brI f t = bi at *
      generalize (transP x.1 y.1).1.1 = o1 at *
      generalize (transP x.1 y.1).1.2 = o2 at *
      generalize (transP x.1 y.1).2 = z at *
      have hw2 : IntKind.i64.wrap ((bi : Int) + 1) = (bi : Int) + 1 := IntWalk.i64_in _ (by omega)
      obtain ⟨⟨xc, xn, xk, xp, xs, xl, xtc, xtn, xon⟩, xa, xm, xcap⟩ := x
      obtain ⟨⟨yc, yn, yk, yp, ys, yl, ytc, ytn, yon⟩, ya_, ym_, ycap⟩ := y
      obtain ⟨kac, kan, kak, kap, kas, kal, katc, katn, kaon⟩ := o1
      obtain ⟨kbc, kbn, kbk, kbp, kbs, kbl, kbtc, kbtn, kbon⟩ := o2
      simp only [opVal] at *
      go_upto_if 45 with fail
      go_cut [10] from 42 to 80 (fun v10 wx => v10 = .int .i64 (bi : Int) ∧ wx = wr)
      case first =>
        cases tb with
        | true =>
          have h3 : (t : Int) < (f : Int) := of_decide_eq_true htb
          have h1 := (HTT.out rfl).2
          have h2 : IntKind.i64.wrap ((f : Int) - 1) = (bi : Int) := by rw [h1]; exact IntWalk.i64_in _ (by omega)
          go_wp2_with fail
          go_meet
          case rel => first | exact ⟨rfl, rfl⟩ | exact ⟨by rw [h1], rfl⟩
        | false =>
          have h3 : ¬ ((t : Int) < (f : Int)) := of_decide_eq_false htb
          have HQ : Hid ((f : Int) = (bi : Int)) := (HTF.out rfl).2
          go_wp2_with fail
          go_meet
          case rel => exact ⟨by rw [HQ.out], rfl⟩
      case rest =>
        obtain ⟨rfl, rfl⟩ := hcut
        have hC := Below.refl wc.heap.size wc
        have alt := Nat.le_refl wc.heap.size
        obtain ⟨p0, p1, p2, p3, p4, p5, p6, p7, p8⟩ := cells_of hM.own hx
        obtain ⟨q0, q1, q2, q3, q4, q5, q6, q7, q8⟩ := cells_of hM.own hy
        have b0 : (0 : Int) ≤ (bi : Int) := by omega
        have b1 : (bi : Int) < (n : Int) := by omega
        have b2 : (0 : Int) ≤ (bi : Int) + 1 := by omega
        have b3 : (bi : Int) + 1 < (n : Int) := by omega
        go_upto_region 11 with fail
        go_cut [11, 12, 13] (fun v11 v12 v13 wx => ∃ (bx by_ : Nat) (va : Option Addr) (vm vc : Nat) (ua : Option Addr) (um uc : Nat), v11 = .pointer (some ⟨bx, 0, none⟩) ∧ v12 = .pointer (some ⟨by_, 0, none⟩) ∧ v13 = .int .i64 z ∧ wx.heap[bx]? = some (Obj.cells #[.int .i64 kac, .int .i64 kan, .int .i64 kak, .int .i64 kap, .string kas, .slice va vm vc, .int .i64 katc, .int .i64 katn, .bool kaon] 34) ∧ wx.heap[by_]? = some (Obj.cells #[.int .i64 kbc, .int .i64 kbn, .int .i64 kbk, .int .i64 kbp, .string kbs, .slice ua um uc, .int .i64 kbtc, .int .i64 kbtn, .bool kbon] 34) ∧ Below wc.heap.size wc wx ∧ wc.heap.size ≤ bx ∧ wc.heap.size ≤ by_ ∧ OwnF rangeV 2 91 wx wc.heap.size (.slice va vm vc) kal ∧ OwnF rangeV 2 91 wx wc.heap.size (.slice ua um uc) kbl)
        case first =>
          refine wp_region_held_drew (S := (fun W => W.cell? ⟨g, bi * 9, none⟩ = some (.int .i64 xc) ∧ W.cell? ⟨g, bi * 9 + 1, none⟩ = some (.int .i64 xn) ∧ W.cell? ⟨g, bi * 9 + 2, none⟩ = some (.int .i64 xk) ∧ W.cell? ⟨g, bi * 9 + 3, none⟩ = some (.int .i64 xp) ∧ W.cell? ⟨g, bi * 9 + 4, none⟩ = some (.string xs) ∧ W.cell? ⟨g, bi * 9 + 5, none⟩ = some (.slice xa xm xcap) ∧ W.cell? ⟨g, bi * 9 + 6, none⟩ = some (.int .i64 xtc) ∧ W.cell? ⟨g, bi * 9 + 7, none⟩ = some (.int .i64 xtn) ∧ W.cell? ⟨g, bi * 9 + 8, none⟩ = some (.bool xon) ∧ W.cell? ⟨g, (bi + 1) * 9, none⟩ = some (.int .i64 yc) ∧ W.cell? ⟨g, (bi + 1) * 9 + 1, none⟩ = some (.int .i64 yn) ∧ W.cell? ⟨g, (bi + 1) * 9 + 2, none⟩ = some (.int .i64 yk) ∧ W.cell? ⟨g, (bi + 1) * 9 + 3, none⟩ = some (.int .i64 yp) ∧ W.cell? ⟨g, (bi + 1) * 9 + 4, none⟩ = some (.string ys) ∧ W.cell? ⟨g, (bi + 1) * 9 + 5, none⟩ = some (.slice ya_ ym_ ycap) ∧ W.cell? ⟨g, (bi + 1) * 9 + 6, none⟩ = some (.int .i64 ytc) ∧ W.cell? ⟨g, (bi + 1) * 9 + 7, none⟩ = some (.int .i64 ytn) ∧ W.cell? ⟨g, (bi + 1) * 9 + 8, none⟩ = some (.bool yon))) (by kernel_rfl) ?hS13 (fun hHeld => ?rest13)
          case hS13 => (exact ⟨p0, p1, p2, p3, p4, p5, p6, p7, p8, q0, q1, q2, q3, q4, q5, q6, q7, q8⟩)
          obtain ⟨u0, hu0⟩ : ∃ V, World.drew wc = V := ⟨_, rfl⟩
          rw [hu0] at hHeld
          rw [hu0]
          have hb : Below wc.heap.size wc u0 := by rw [← hu0]; exact (Below.refl _ _).drew
          clear hu0
          have hC0 := hC.trans (hb.mono hC.size)
          have alt0 := Nat.le_trans alt hb.size
          clear hb
          refine takeDh (i := 0) (d := some 49) (v := ?vT14) rfl rfl (by kernel_rfl) (by kernel_rfl) (by kernel_rfl) (fun _ _ _ h => h) (Or.inl ⟨by rfl, ?hyT14⟩) (by assumption) ?rstT14
          case hyT14 => (intro w hSw; (try dsimp only at hSw); go_simp; (try with_reducible rfl))
          try simp only [Act.put, List.setIfInBounds_toArray, List.set_cons_zero, List.set_cons_succ]
          refine takeDh (i := 1) (d := some 50) (v := ?vT15) rfl rfl (by kernel_rfl) (by kernel_rfl) (by kernel_rfl) (fun _ _ _ h => h) (Or.inl ⟨by rfl, ?hyT15⟩) (by assumption) ?rstT15
          case hyT15 => (intro w hSw; (try dsimp only at hSw); go_simp; (try with_reducible rfl))
          try simp only [Act.put, List.setIfInBounds_toArray, List.set_cons_zero, List.set_cons_succ]
          refine takeDh (i := 2) (d := some 51) (v := ?vT16) rfl rfl (by kernel_rfl) (by kernel_rfl) (by kernel_rfl) (fun _ _ _ h => h) (Or.inl ⟨by rfl, ?hyT16⟩) (by assumption) ?rstT16
          case hyT16 => (intro w hSw; (try dsimp only at hSw); go_simp; (try with_reducible rfl))
          try simp only [Act.put, List.setIfInBounds_toArray, List.set_cons_zero, List.set_cons_succ]
          refine takeDh (i := 3) (d := some 52) (v := ?vT17) rfl rfl (by kernel_rfl) (by kernel_rfl) (by kernel_rfl) (fun _ _ _ h => h) (Or.inl ⟨by rfl, ?hyT17⟩) (by assumption) ?rstT17
          case hyT17 => (intro w hSw; (try dsimp only at hSw); go_simp; (try with_reducible rfl))
          try simp only [Act.put, List.setIfInBounds_toArray, List.set_cons_zero, List.set_cons_succ]
          refine takeDh (i := 4) (d := some 53) (v := ?vT18) rfl rfl (by kernel_rfl) (by kernel_rfl) (by kernel_rfl) (fun _ _ _ h => h) (Or.inl ⟨by rfl, ?hyT18⟩) (by assumption) ?rstT18
          case hyT18 => (intro w hSw; (try dsimp only at hSw); go_simp; (try with_reducible rfl))
          try simp only [Act.put, List.setIfInBounds_toArray, List.set_cons_zero, List.set_cons_succ]
          refine takeDh (i := 5) (d := some 54) (v := ?vT19) rfl rfl (by kernel_rfl) (by kernel_rfl) (by kernel_rfl) (fun _ _ _ h => h) (Or.inl ⟨by rfl, ?hyT19⟩) (by assumption) ?rstT19
          case hyT19 => (intro w hSw; (try dsimp only at hSw); go_simp; (try with_reducible rfl))
          try simp only [Act.put, List.setIfInBounds_toArray, List.set_cons_zero, List.set_cons_succ]
          refine takeDh (i := 6) (d := some 55) (v := ?vT20) rfl rfl (by kernel_rfl) (by kernel_rfl) (by kernel_rfl) (fun _ _ _ h => h) (Or.inl ⟨by rfl, ?hyT20⟩) (by assumption) ?rstT20
          case hyT20 => (intro w hSw; (try dsimp only at hSw); go_simp; (try with_reducible rfl))
          try simp only [Act.put, List.setIfInBounds_toArray, List.set_cons_zero, List.set_cons_succ]
          refine takeDh (i := 7) (d := some 56) (v := ?vT21) rfl rfl (by kernel_rfl) (by kernel_rfl) (by kernel_rfl) (fun _ _ _ h => h) (Or.inl ⟨by rfl, ?hyT21⟩) (by assumption) ?rstT21
          case hyT21 => (intro w hSw; (try dsimp only at hSw); go_simp; (try with_reducible rfl))
          try simp only [Act.put, List.setIfInBounds_toArray, List.set_cons_zero, List.set_cons_succ]
          refine takeDh (i := 8) (d := some 57) (v := ?vT22) rfl rfl (by kernel_rfl) (by kernel_rfl) (by kernel_rfl) (fun _ _ _ h => h) (Or.inl ⟨by rfl, ?hyT22⟩) (by assumption) ?rstT22
          case hyT22 => (intro w hSw; (try dsimp only at hSw); go_simp; (try with_reducible rfl))
          try simp only [Act.put, List.setIfInBounds_toArray, List.set_cons_zero, List.set_cons_succ]
          refine wpAnyH_ready (rs := [9, 14, 15]) (by kernel_rfl) (by simp) ?_
          refine AllReadyH.cons rfl (fun K hK => ?b23_0) (AllReadyH.cons rfl (fun K hK => ?b23_1) (AllReadyH.cons rfl (fun K hK => ?b23_2) (AllReadyH.nil)))
          case' b23_0 =>
            go_simp
            refine (HI.out _ hC0).mono ?_
            rintro e2 u1 ⟨va, vm, vc, ua, um, uc, rfl, ho5, ho6, hb⟩
            have hC1 := hC0.trans (hb.mono hC0.size)
            have alt1 := Nat.le_trans alt0 hb.size
            clear hb
            clear hHeld
            refine hK.out _ _ ?hS28 (fun hHeld => ?rest28)
            case' hS28 => (obtain ⟨p0, p1, p2, p3, p4, p5, p6, p7, p8⟩ := cells_of (hM.below hC1).own hx; obtain ⟨q0, q1, q2, q3, q4, q5, q6, q7, q8⟩ := cells_of (hM.below hC1).own hy; exact ⟨p0, p1, p2, p3, p4, p5, p6, p7, p8, q0, q1, q2, q3, q4, q5, q6, q7, q8⟩)
            clear hK K
            try simp only [Act.put, List.setIfInBounds_toArray, List.set_cons_zero, List.set_cons_succ]
            refine takeDh (i := 10) (d := some 48) (v := ?vT24) rfl rfl (by kernel_rfl) (by kernel_rfl) (by kernel_rfl) (fun _ _ _ h => h) (Or.inl ⟨by rfl, ?hyT24⟩) (by assumption) ?rstT24
            case hyT24 => (intro w hSw; (try dsimp only at hSw); go_simp; (try with_reducible rfl))
            try simp only [Act.put, List.setIfInBounds_toArray, List.set_cons_zero, List.set_cons_succ]
            refine takeDh (i := 11) (d := some 59) (v := ?vT25) rfl rfl (by kernel_rfl) (by kernel_rfl) (by kernel_rfl) (fun _ _ _ h => h) (Or.inl ⟨by rfl, ?hyT25⟩) (by assumption) ?rstT25
            case hyT25 => (intro w hSw; (try dsimp only at hSw); go_simp; (try with_reducible rfl))
            try simp only [Act.put, List.setIfInBounds_toArray, List.set_cons_zero, List.set_cons_succ]
            refine takeDh (i := 12) (d := some 60) (v := ?vT26) rfl rfl (by kernel_rfl) (by kernel_rfl) (by kernel_rfl) (fun _ _ _ h => h) (Or.inl ⟨by rfl, ?hyT26⟩) (by assumption) ?rstT26
            case hyT26 => (intro w hSw; (try dsimp only at hSw); go_simp; (try with_reducible rfl))
            try simp only [Act.put, List.setIfInBounds_toArray, List.set_cons_zero, List.set_cons_succ]
            refine takeDh (i := 13) (d := some 61) (v := ?vT27) rfl rfl (by kernel_rfl) (by kernel_rfl) (by kernel_rfl) (fun _ _ _ h => h) (Or.inl ⟨by rfl, ?hyT27⟩) (by assumption) ?rstT27
            case hyT27 => (intro w hSw; (try dsimp only at hSw); go_simp; (try with_reducible rfl))
            try simp only [Act.put, List.setIfInBounds_toArray, List.set_cons_zero, List.set_cons_succ]
            refine wpAnyH_ready (rs := [14, 15]) (by kernel_rfl) (by simp) ?_
            refine AllReadyH.cons rfl (fun K hK => ?b29_0) (AllReadyH.cons rfl (fun K hK => ?b29_1) (AllReadyH.nil))
            case' b29_0 =>
              go_simp
              obtain ⟨u2, hv⟩ : ∃ V, u1.alloc (Obj.cells #[.int .i64 0, .int .i64 0, .int .i64 0, .int .i64 0, .string ⟨#[]⟩, .slice none 0 0, .int .i64 0, .int .i64 0, .bool false] 34) = V := ⟨_, rfl⟩
              have hb : Below u1.heap.size u1 u2 := by rw [← hv]; exact (Below.refl _ _).alloc (Nat.le_refl _) _
              have hC2 := hC1.trans (hb.mono hC1.size)
              have alt2 := Nat.le_trans alt1 hb.size
              have ho5 := ho5.below hb
              have ho6 := ho6.below hb
              have hbx : u2.heap[u1.heap.size]? = some (Obj.cells #[.int .i64 0, .int .i64 0, .int .i64 0, .int .i64 0, .string ⟨#[]⟩, .slice none 0 0, .int .i64 0, .int .i64 0, .bool false] 34) := by rw [← hv]; exact heap_alloc_new _ _
              have hbxlo := alt1
              rw [hv]
              generalize u1.heap.size = hbxx at *
              clear hb hv
              clear hHeld
              refine hK.out _ _ ?hS30 (fun hHeld => ?rest30)
              case' hS30 => (obtain ⟨p0, p1, p2, p3, p4, p5, p6, p7, p8⟩ := cells_of (hM.below hC2).own hx; obtain ⟨q0, q1, q2, q3, q4, q5, q6, q7, q8⟩ := cells_of (hM.below hC2).own hy; exact ⟨p0, p1, p2, p3, p4, p5, p6, p7, p8, q0, q1, q2, q3, q4, q5, q6, q7, q8⟩)
              clear hK K
              try simp only [Act.put, List.setIfInBounds_toArray, List.set_cons_zero, List.set_cons_succ]
              refine wpAnyH_ready (rs := [15]) (by kernel_rfl) (by simp) ?_
              refine AllReadyH.cons rfl (fun K hK => ?_) AllReadyH.nil
              have hbxlt : hbxx < u2.heap.size := (Array.getElem?_eq_some_iff.1 hbx).1
              go_simp
              obtain ⟨u3, hv⟩ : ∃ V, u2.alloc (Obj.cells #[.int .i64 0, .int .i64 0, .int .i64 0, .int .i64 0, .string ⟨#[]⟩, .slice none 0 0, .int .i64 0, .int .i64 0, .bool false] 34) = V := ⟨_, rfl⟩
              have hb : Below u2.heap.size u2 u3 := by rw [← hv]; exact (Below.refl _ _).alloc (Nat.le_refl _) _
              have hC3 := hC2.trans (hb.mono hC2.size)
              have alt3 := Nat.le_trans alt2 hb.size
              have hbx := (hb.block _ (Array.getElem?_eq_some_iff.1 hbx).1).trans hbx
              have ho5 := ho5.below hb
              have ho6 := ho6.below hb
              have hby : u3.heap[u2.heap.size]? = some (Obj.cells #[.int .i64 0, .int .i64 0, .int .i64 0, .int .i64 0, .string ⟨#[]⟩, .slice none 0 0, .int .i64 0, .int .i64 0, .bool false] 34) := by rw [← hv]; exact heap_alloc_new _ _
              have hbylo := alt2
              rw [hv]
              generalize u2.heap.size = hbyx at *
              clear hb hv
              clear hHeld
              refine hK.out _ _ ?hS31 (fun hHeld => ?rest31)
              case' hS31 => (obtain ⟨p0, p1, p2, p3, p4, p5, p6, p7, p8⟩ := cells_of (hM.below hC3).own hx; obtain ⟨q0, q1, q2, q3, q4, q5, q6, q7, q8⟩ := cells_of (hM.below hC3).own hy; exact ⟨p0, p1, p2, p3, p4, p5, p6, p7, p8, q0, q1, q2, q3, q4, q5, q6, q7, q8⟩)
              clear hK K
              try simp only [Act.put, List.setIfInBounds_toArray, List.set_cons_zero, List.set_cons_succ]
              have hne : hbxx ≠ hbyx := (by first | omega | (have := hbxlt; omega) | (have := hbylt; omega))
              obtain ⟨u8, e8, hx8, hC8, hK8⟩ := store9 hbx hC3 (by omega) (.int .i64 kac) (.int .i64 kan) (.int .i64 kak) (.int .i64 kap) (.string kas) (.slice va vm vc) (.int .i64 katc) (.int .i64 katn) (.bool kaon)
              obtain ⟨d0, d1, d2, d3, d4, d5, d6, d7, d8⟩ := box9 hbx
              obtain ⟨dz0, dz1, dz2, dz3, dz4, dz5, dz6, dz7, dz8⟩ := wr9 hbx
              have hy8 := hK8.block hby (by omega)
              have ho8 := own_type ho5 hbx (by decide) hK8
              have hp8 := own_type ho6 hbx (by decide) hK8
              refine wpAnyH_ready (rs := [16]) (by kernel_rfl) (by simp) ?_
              refine AllReadyH.cons rfl (fun K hK => ?_) AllReadyH.nil
              go_simp
              try rw [e8]
              clear hHeld
              refine hK.out _ _ ?hS32 (fun hHeld => ?rest32)
              case' hS32 => (obtain ⟨p0, p1, p2, p3, p4, p5, p6, p7, p8⟩ := cells_of (hM.below hC8).own hx; obtain ⟨q0, q1, q2, q3, q4, q5, q6, q7, q8⟩ := cells_of (hM.below hC8).own hy; exact ⟨p0, p1, p2, p3, p4, p5, p6, p7, p8, q0, q1, q2, q3, q4, q5, q6, q7, q8⟩)
              clear hK K
              try simp only [Act.put, List.setIfInBounds_toArray, List.set_cons_zero, List.set_cons_succ]
              obtain ⟨u9, e9, hy9, hC9, hK9⟩ := store9 hy8 hC8 (by omega) (.int .i64 kbc) (.int .i64 kbn) (.int .i64 kbk) (.int .i64 kbp) (.string kbs) (.slice ua um uc) (.int .i64 kbtc) (.int .i64 kbtn) (.bool kbon)
              obtain ⟨f0, f1, f2, f3, f4, f5, f6, f7, f8⟩ := box9 hy8
              obtain ⟨fz0, fz1, fz2, fz3, fz4, fz5, fz6, fz7, fz8⟩ := wr9 hy8
              have hx9 := hK9.block hx8 (by omega)
              have ho9 := own_type ho8 hy8 (by decide) hK9
              have hp9 := own_type hp8 hy8 (by decide) hK9
              refine wpAnyH_ready (rs := [17]) (by kernel_rfl) (by simp) ?_
              refine AllReadyH.cons rfl (fun K hK => ?_) AllReadyH.nil
              go_simp
              try rw [e9]
              clear hHeld
              refine hK.out _ _ ?hS33 (fun hHeld => ?rest33)
              case' hS33 => (obtain ⟨p0, p1, p2, p3, p4, p5, p6, p7, p8⟩ := cells_of (hM.below hC9).own hx; obtain ⟨q0, q1, q2, q3, q4, q5, q6, q7, q8⟩ := cells_of (hM.below hC9).own hy; exact ⟨p0, p1, p2, p3, p4, p5, p6, p7, p8, q0, q1, q2, q3, q4, q5, q6, q7, q8⟩)
              clear hK K
              try simp only [Act.put, List.setIfInBounds_toArray, List.set_cons_zero, List.set_cons_succ]
              refine takeDh (i := 18) (d := some 13) (v := ?vT34) rfl rfl (by kernel_rfl) (by kernel_rfl) (by kernel_rfl) (fun _ _ _ h => h) (Or.inl ⟨by rfl, ?hyT34⟩) (by assumption) ?rstT34
              case hyT34 => (intro w hSw; (try dsimp only at hSw); go_simp; (try with_reducible rfl))
              try simp only [Act.put, List.setIfInBounds_toArray, List.set_cons_zero, List.set_cons_succ]
              refine wpAnyH_done (by kernel_rfl) ?_ _
            case' b29_1 =>
              go_simp
              obtain ⟨u2, hv⟩ : ∃ V, u1.alloc (Obj.cells #[.int .i64 0, .int .i64 0, .int .i64 0, .int .i64 0, .string ⟨#[]⟩, .slice none 0 0, .int .i64 0, .int .i64 0, .bool false] 34) = V := ⟨_, rfl⟩
              have hb : Below u1.heap.size u1 u2 := by rw [← hv]; exact (Below.refl _ _).alloc (Nat.le_refl _) _
              have hC2 := hC1.trans (hb.mono hC1.size)
              have alt2 := Nat.le_trans alt1 hb.size
              have ho5 := ho5.below hb
              have ho6 := ho6.below hb
              have hby : u2.heap[u1.heap.size]? = some (Obj.cells #[.int .i64 0, .int .i64 0, .int .i64 0, .int .i64 0, .string ⟨#[]⟩, .slice none 0 0, .int .i64 0, .int .i64 0, .bool false] 34) := by rw [← hv]; exact heap_alloc_new _ _
              have hbylo := alt1
              rw [hv]
              generalize u1.heap.size = hbyx at *
              clear hb hv
              clear hHeld
              refine hK.out _ _ ?hS35 (fun hHeld => ?rest35)
              case' hS35 => (obtain ⟨p0, p1, p2, p3, p4, p5, p6, p7, p8⟩ := cells_of (hM.below hC2).own hx; obtain ⟨q0, q1, q2, q3, q4, q5, q6, q7, q8⟩ := cells_of (hM.below hC2).own hy; exact ⟨p0, p1, p2, p3, p4, p5, p6, p7, p8, q0, q1, q2, q3, q4, q5, q6, q7, q8⟩)
              clear hK K
              try simp only [Act.put, List.setIfInBounds_toArray, List.set_cons_zero, List.set_cons_succ]
              refine wpAnyH_ready (rs := [14]) (by kernel_rfl) (by simp) ?_
              refine AllReadyH.cons rfl (fun K hK => ?_) AllReadyH.nil
              have hbylt : hbyx < u2.heap.size := (Array.getElem?_eq_some_iff.1 hby).1
              go_simp
              obtain ⟨u3, hv⟩ : ∃ V, u2.alloc (Obj.cells #[.int .i64 0, .int .i64 0, .int .i64 0, .int .i64 0, .string ⟨#[]⟩, .slice none 0 0, .int .i64 0, .int .i64 0, .bool false] 34) = V := ⟨_, rfl⟩
              have hb : Below u2.heap.size u2 u3 := by rw [← hv]; exact (Below.refl _ _).alloc (Nat.le_refl _) _
              have hC3 := hC2.trans (hb.mono hC2.size)
              have alt3 := Nat.le_trans alt2 hb.size
              have hby := (hb.block _ (Array.getElem?_eq_some_iff.1 hby).1).trans hby
              have ho5 := ho5.below hb
              have ho6 := ho6.below hb
              have hbx : u3.heap[u2.heap.size]? = some (Obj.cells #[.int .i64 0, .int .i64 0, .int .i64 0, .int .i64 0, .string ⟨#[]⟩, .slice none 0 0, .int .i64 0, .int .i64 0, .bool false] 34) := by rw [← hv]; exact heap_alloc_new _ _
              have hbxlo := alt2
              rw [hv]
              generalize u2.heap.size = hbxx at *
              clear hb hv
              clear hHeld
              refine hK.out _ _ ?hS36 (fun hHeld => ?rest36)
              case' hS36 => (obtain ⟨p0, p1, p2, p3, p4, p5, p6, p7, p8⟩ := cells_of (hM.below hC3).own hx; obtain ⟨q0, q1, q2, q3, q4, q5, q6, q7, q8⟩ := cells_of (hM.below hC3).own hy; exact ⟨p0, p1, p2, p3, p4, p5, p6, p7, p8, q0, q1, q2, q3, q4, q5, q6, q7, q8⟩)
              clear hK K
              try simp only [Act.put, List.setIfInBounds_toArray, List.set_cons_zero, List.set_cons_succ]
              have hne : hbxx ≠ hbyx := (by first | omega | (have := hbxlt; omega) | (have := hbylt; omega))
              obtain ⟨u8, e8, hx8, hC8, hK8⟩ := store9 hbx hC3 (by omega) (.int .i64 kac) (.int .i64 kan) (.int .i64 kak) (.int .i64 kap) (.string kas) (.slice va vm vc) (.int .i64 katc) (.int .i64 katn) (.bool kaon)
              obtain ⟨d0, d1, d2, d3, d4, d5, d6, d7, d8⟩ := box9 hbx
              obtain ⟨dz0, dz1, dz2, dz3, dz4, dz5, dz6, dz7, dz8⟩ := wr9 hbx
              have hy8 := hK8.block hby (by omega)
              have ho8 := own_type ho5 hbx (by decide) hK8
              have hp8 := own_type ho6 hbx (by decide) hK8
              refine wpAnyH_ready (rs := [16]) (by kernel_rfl) (by simp) ?_
              refine AllReadyH.cons rfl (fun K hK => ?_) AllReadyH.nil
              go_simp
              try rw [e8]
              clear hHeld
              refine hK.out _ _ ?hS37 (fun hHeld => ?rest37)
              case' hS37 => (obtain ⟨p0, p1, p2, p3, p4, p5, p6, p7, p8⟩ := cells_of (hM.below hC8).own hx; obtain ⟨q0, q1, q2, q3, q4, q5, q6, q7, q8⟩ := cells_of (hM.below hC8).own hy; exact ⟨p0, p1, p2, p3, p4, p5, p6, p7, p8, q0, q1, q2, q3, q4, q5, q6, q7, q8⟩)
              clear hK K
              try simp only [Act.put, List.setIfInBounds_toArray, List.set_cons_zero, List.set_cons_succ]
              obtain ⟨u9, e9, hy9, hC9, hK9⟩ := store9 hy8 hC8 (by omega) (.int .i64 kbc) (.int .i64 kbn) (.int .i64 kbk) (.int .i64 kbp) (.string kbs) (.slice ua um uc) (.int .i64 kbtc) (.int .i64 kbtn) (.bool kbon)
              obtain ⟨f0, f1, f2, f3, f4, f5, f6, f7, f8⟩ := box9 hy8
              obtain ⟨fz0, fz1, fz2, fz3, fz4, fz5, fz6, fz7, fz8⟩ := wr9 hy8
              have hx9 := hK9.block hx8 (by omega)
              have ho9 := own_type ho8 hy8 (by decide) hK9
              have hp9 := own_type hp8 hy8 (by decide) hK9
              refine wpAnyH_ready (rs := [17]) (by kernel_rfl) (by simp) ?_
              refine AllReadyH.cons rfl (fun K hK => ?_) AllReadyH.nil
              go_simp
              try rw [e9]
              clear hHeld
              refine hK.out _ _ ?hS38 (fun hHeld => ?rest38)
              case' hS38 => (obtain ⟨p0, p1, p2, p3, p4, p5, p6, p7, p8⟩ := cells_of (hM.below hC9).own hx; obtain ⟨q0, q1, q2, q3, q4, q5, q6, q7, q8⟩ := cells_of (hM.below hC9).own hy; exact ⟨p0, p1, p2, p3, p4, p5, p6, p7, p8, q0, q1, q2, q3, q4, q5, q6, q7, q8⟩)
              clear hK K
              try simp only [Act.put, List.setIfInBounds_toArray, List.set_cons_zero, List.set_cons_succ]
              refine takeDh (i := 18) (d := some 13) (v := ?vT39) rfl rfl (by kernel_rfl) (by kernel_rfl) (by kernel_rfl) (fun _ _ _ h => h) (Or.inl ⟨by rfl, ?hyT39⟩) (by assumption) ?rstT39
              case hyT39 => (intro w hSw; (try dsimp only at hSw); go_simp; (try with_reducible rfl))
              try simp only [Act.put, List.setIfInBounds_toArray, List.set_cons_zero, List.set_cons_succ]
              refine wpAnyH_done (by kernel_rfl) ?_ _
          case' b23_1 =>
            go_simp
            obtain ⟨u1, hv⟩ : ∃ V, u0.alloc (Obj.cells #[.int .i64 0, .int .i64 0, .int .i64 0, .int .i64 0, .string ⟨#[]⟩, .slice none 0 0, .int .i64 0, .int .i64 0, .bool false] 34) = V := ⟨_, rfl⟩
            have hb : Below u0.heap.size u0 u1 := by rw [← hv]; exact (Below.refl _ _).alloc (Nat.le_refl _) _
            have hC1 := hC0.trans (hb.mono hC0.size)
            have alt1 := Nat.le_trans alt0 hb.size
            have hbx : u1.heap[u0.heap.size]? = some (Obj.cells #[.int .i64 0, .int .i64 0, .int .i64 0, .int .i64 0, .string ⟨#[]⟩, .slice none 0 0, .int .i64 0, .int .i64 0, .bool false] 34) := by rw [← hv]; exact heap_alloc_new _ _
            have hbxlo := alt0
            rw [hv]
            generalize u0.heap.size = hbxx at *
            clear hb hv
            clear hHeld
            refine hK.out _ _ ?hS40 (fun hHeld => ?rest40)
            case' hS40 => (obtain ⟨p0, p1, p2, p3, p4, p5, p6, p7, p8⟩ := cells_of (hM.below hC1).own hx; obtain ⟨q0, q1, q2, q3, q4, q5, q6, q7, q8⟩ := cells_of (hM.below hC1).own hy; exact ⟨p0, p1, p2, p3, p4, p5, p6, p7, p8, q0, q1, q2, q3, q4, q5, q6, q7, q8⟩)
            clear hK K
            try simp only [Act.put, List.setIfInBounds_toArray, List.set_cons_zero, List.set_cons_succ]
            refine wpAnyH_ready (rs := [9, 15]) (by kernel_rfl) (by simp) ?_
            refine AllReadyH.cons rfl (fun K hK => ?b41_0) (AllReadyH.cons rfl (fun K hK => ?b41_1) (AllReadyH.nil))
            case' b41_0 =>
              go_simp
              refine (HI.out _ hC1).mono ?_
              rintro e2 u2 ⟨va, vm, vc, ua, um, uc, rfl, ho5, ho6, hb⟩
              have hC2 := hC1.trans (hb.mono hC1.size)
              have alt2 := Nat.le_trans alt1 hb.size
              have hbx := (hb.block _ (Array.getElem?_eq_some_iff.1 hbx).1).trans hbx
              clear hb
              clear hHeld
              refine hK.out _ _ ?hS46 (fun hHeld => ?rest46)
              case' hS46 => (obtain ⟨p0, p1, p2, p3, p4, p5, p6, p7, p8⟩ := cells_of (hM.below hC2).own hx; obtain ⟨q0, q1, q2, q3, q4, q5, q6, q7, q8⟩ := cells_of (hM.below hC2).own hy; exact ⟨p0, p1, p2, p3, p4, p5, p6, p7, p8, q0, q1, q2, q3, q4, q5, q6, q7, q8⟩)
              clear hK K
              try simp only [Act.put, List.setIfInBounds_toArray, List.set_cons_zero, List.set_cons_succ]
              refine takeDh (i := 10) (d := some 48) (v := ?vT42) rfl rfl (by kernel_rfl) (by kernel_rfl) (by kernel_rfl) (fun _ _ _ h => h) (Or.inl ⟨by rfl, ?hyT42⟩) (by assumption) ?rstT42
              case hyT42 => (intro w hSw; (try dsimp only at hSw); go_simp; (try with_reducible rfl))
              try simp only [Act.put, List.setIfInBounds_toArray, List.set_cons_zero, List.set_cons_succ]
              refine takeDh (i := 11) (d := some 59) (v := ?vT43) rfl rfl (by kernel_rfl) (by kernel_rfl) (by kernel_rfl) (fun _ _ _ h => h) (Or.inl ⟨by rfl, ?hyT43⟩) (by assumption) ?rstT43
              case hyT43 => (intro w hSw; (try dsimp only at hSw); go_simp; (try with_reducible rfl))
              try simp only [Act.put, List.setIfInBounds_toArray, List.set_cons_zero, List.set_cons_succ]
              refine takeDh (i := 12) (d := some 60) (v := ?vT44) rfl rfl (by kernel_rfl) (by kernel_rfl) (by kernel_rfl) (fun _ _ _ h => h) (Or.inl ⟨by rfl, ?hyT44⟩) (by assumption) ?rstT44
              case hyT44 => (intro w hSw; (try dsimp only at hSw); go_simp; (try with_reducible rfl))
              try simp only [Act.put, List.setIfInBounds_toArray, List.set_cons_zero, List.set_cons_succ]
              refine takeDh (i := 13) (d := some 61) (v := ?vT45) rfl rfl (by kernel_rfl) (by kernel_rfl) (by kernel_rfl) (fun _ _ _ h => h) (Or.inl ⟨by rfl, ?hyT45⟩) (by assumption) ?rstT45
              case hyT45 => (intro w hSw; (try dsimp only at hSw); go_simp; (try with_reducible rfl))
              try simp only [Act.put, List.setIfInBounds_toArray, List.set_cons_zero, List.set_cons_succ]
              refine wpAnyH_ready (rs := [15]) (by kernel_rfl) (by simp) ?_
              refine AllReadyH.cons rfl (fun K hK => ?_) AllReadyH.nil
              have hbxlt : hbxx < u2.heap.size := (Array.getElem?_eq_some_iff.1 hbx).1
              go_simp
              obtain ⟨u3, hv⟩ : ∃ V, u2.alloc (Obj.cells #[.int .i64 0, .int .i64 0, .int .i64 0, .int .i64 0, .string ⟨#[]⟩, .slice none 0 0, .int .i64 0, .int .i64 0, .bool false] 34) = V := ⟨_, rfl⟩
              have hb : Below u2.heap.size u2 u3 := by rw [← hv]; exact (Below.refl _ _).alloc (Nat.le_refl _) _
              have hC3 := hC2.trans (hb.mono hC2.size)
              have alt3 := Nat.le_trans alt2 hb.size
              have hbx := (hb.block _ (Array.getElem?_eq_some_iff.1 hbx).1).trans hbx
              have ho5 := ho5.below hb
              have ho6 := ho6.below hb
              have hby : u3.heap[u2.heap.size]? = some (Obj.cells #[.int .i64 0, .int .i64 0, .int .i64 0, .int .i64 0, .string ⟨#[]⟩, .slice none 0 0, .int .i64 0, .int .i64 0, .bool false] 34) := by rw [← hv]; exact heap_alloc_new _ _
              have hbylo := alt2
              rw [hv]
              generalize u2.heap.size = hbyx at *
              clear hb hv
              clear hHeld
              refine hK.out _ _ ?hS47 (fun hHeld => ?rest47)
              case' hS47 => (obtain ⟨p0, p1, p2, p3, p4, p5, p6, p7, p8⟩ := cells_of (hM.below hC3).own hx; obtain ⟨q0, q1, q2, q3, q4, q5, q6, q7, q8⟩ := cells_of (hM.below hC3).own hy; exact ⟨p0, p1, p2, p3, p4, p5, p6, p7, p8, q0, q1, q2, q3, q4, q5, q6, q7, q8⟩)
              clear hK K
              try simp only [Act.put, List.setIfInBounds_toArray, List.set_cons_zero, List.set_cons_succ]
              have hne : hbxx ≠ hbyx := (by first | omega | (have := hbxlt; omega) | (have := hbylt; omega))
              obtain ⟨u8, e8, hx8, hC8, hK8⟩ := store9 hbx hC3 (by omega) (.int .i64 kac) (.int .i64 kan) (.int .i64 kak) (.int .i64 kap) (.string kas) (.slice va vm vc) (.int .i64 katc) (.int .i64 katn) (.bool kaon)
              obtain ⟨d0, d1, d2, d3, d4, d5, d6, d7, d8⟩ := box9 hbx
              obtain ⟨dz0, dz1, dz2, dz3, dz4, dz5, dz6, dz7, dz8⟩ := wr9 hbx
              have hy8 := hK8.block hby (by omega)
              have ho8 := own_type ho5 hbx (by decide) hK8
              have hp8 := own_type ho6 hbx (by decide) hK8
              refine wpAnyH_ready (rs := [16]) (by kernel_rfl) (by simp) ?_
              refine AllReadyH.cons rfl (fun K hK => ?_) AllReadyH.nil
              go_simp
              try rw [e8]
              clear hHeld
              refine hK.out _ _ ?hS48 (fun hHeld => ?rest48)
              case' hS48 => (obtain ⟨p0, p1, p2, p3, p4, p5, p6, p7, p8⟩ := cells_of (hM.below hC8).own hx; obtain ⟨q0, q1, q2, q3, q4, q5, q6, q7, q8⟩ := cells_of (hM.below hC8).own hy; exact ⟨p0, p1, p2, p3, p4, p5, p6, p7, p8, q0, q1, q2, q3, q4, q5, q6, q7, q8⟩)
              clear hK K
              try simp only [Act.put, List.setIfInBounds_toArray, List.set_cons_zero, List.set_cons_succ]
              obtain ⟨u9, e9, hy9, hC9, hK9⟩ := store9 hy8 hC8 (by omega) (.int .i64 kbc) (.int .i64 kbn) (.int .i64 kbk) (.int .i64 kbp) (.string kbs) (.slice ua um uc) (.int .i64 kbtc) (.int .i64 kbtn) (.bool kbon)
              obtain ⟨f0, f1, f2, f3, f4, f5, f6, f7, f8⟩ := box9 hy8
              obtain ⟨fz0, fz1, fz2, fz3, fz4, fz5, fz6, fz7, fz8⟩ := wr9 hy8
              have hx9 := hK9.block hx8 (by omega)
              have ho9 := own_type ho8 hy8 (by decide) hK9
              have hp9 := own_type hp8 hy8 (by decide) hK9
              refine wpAnyH_ready (rs := [17]) (by kernel_rfl) (by simp) ?_
              refine AllReadyH.cons rfl (fun K hK => ?_) AllReadyH.nil
              go_simp
              try rw [e9]
              clear hHeld
              refine hK.out _ _ ?hS49 (fun hHeld => ?rest49)
              case' hS49 => (obtain ⟨p0, p1, p2, p3, p4, p5, p6, p7, p8⟩ := cells_of (hM.below hC9).own hx; obtain ⟨q0, q1, q2, q3, q4, q5, q6, q7, q8⟩ := cells_of (hM.below hC9).own hy; exact ⟨p0, p1, p2, p3, p4, p5, p6, p7, p8, q0, q1, q2, q3, q4, q5, q6, q7, q8⟩)
              clear hK K
              try simp only [Act.put, List.setIfInBounds_toArray, List.set_cons_zero, List.set_cons_succ]
              refine takeDh (i := 18) (d := some 13) (v := ?vT50) rfl rfl (by kernel_rfl) (by kernel_rfl) (by kernel_rfl) (fun _ _ _ h => h) (Or.inl ⟨by rfl, ?hyT50⟩) (by assumption) ?rstT50
              case hyT50 => (intro w hSw; (try dsimp only at hSw); go_simp; (try with_reducible rfl))
              try simp only [Act.put, List.setIfInBounds_toArray, List.set_cons_zero, List.set_cons_succ]
              refine wpAnyH_done (by kernel_rfl) ?_ _
            case' b41_1 =>
              have hbxlt : hbxx < u1.heap.size := (Array.getElem?_eq_some_iff.1 hbx).1
              go_simp
              obtain ⟨u2, hv⟩ : ∃ V, u1.alloc (Obj.cells #[.int .i64 0, .int .i64 0, .int .i64 0, .int .i64 0, .string ⟨#[]⟩, .slice none 0 0, .int .i64 0, .int .i64 0, .bool false] 34) = V := ⟨_, rfl⟩
              have hb : Below u1.heap.size u1 u2 := by rw [← hv]; exact (Below.refl _ _).alloc (Nat.le_refl _) _
              have hC2 := hC1.trans (hb.mono hC1.size)
              have alt2 := Nat.le_trans alt1 hb.size
              have hbx := (hb.block _ (Array.getElem?_eq_some_iff.1 hbx).1).trans hbx
              have hby : u2.heap[u1.heap.size]? = some (Obj.cells #[.int .i64 0, .int .i64 0, .int .i64 0, .int .i64 0, .string ⟨#[]⟩, .slice none 0 0, .int .i64 0, .int .i64 0, .bool false] 34) := by rw [← hv]; exact heap_alloc_new _ _
              have hbylo := alt1
              rw [hv]
              generalize u1.heap.size = hbyx at *
              clear hb hv
              clear hHeld
              refine hK.out _ _ ?hS51 (fun hHeld => ?rest51)
              case' hS51 => (obtain ⟨p0, p1, p2, p3, p4, p5, p6, p7, p8⟩ := cells_of (hM.below hC2).own hx; obtain ⟨q0, q1, q2, q3, q4, q5, q6, q7, q8⟩ := cells_of (hM.below hC2).own hy; exact ⟨p0, p1, p2, p3, p4, p5, p6, p7, p8, q0, q1, q2, q3, q4, q5, q6, q7, q8⟩)
              clear hK K
              try simp only [Act.put, List.setIfInBounds_toArray, List.set_cons_zero, List.set_cons_succ]
              refine wpAnyH_ready (rs := [9]) (by kernel_rfl) (by simp) ?_
              refine AllReadyH.cons rfl (fun K hK => ?_) AllReadyH.nil
              go_simp
              refine (HI.out _ hC2).mono ?_
              rintro e2 u3 ⟨va, vm, vc, ua, um, uc, rfl, ho5, ho6, hb⟩
              have hC3 := hC2.trans (hb.mono hC2.size)
              have alt3 := Nat.le_trans alt2 hb.size
              have hbx := (hb.block _ (Array.getElem?_eq_some_iff.1 hbx).1).trans hbx
              have hby := (hb.block _ (Array.getElem?_eq_some_iff.1 hby).1).trans hby
              clear hb
              clear hHeld
              refine hK.out _ _ ?hS56 (fun hHeld => ?rest56)
              case' hS56 => (obtain ⟨p0, p1, p2, p3, p4, p5, p6, p7, p8⟩ := cells_of (hM.below hC3).own hx; obtain ⟨q0, q1, q2, q3, q4, q5, q6, q7, q8⟩ := cells_of (hM.below hC3).own hy; exact ⟨p0, p1, p2, p3, p4, p5, p6, p7, p8, q0, q1, q2, q3, q4, q5, q6, q7, q8⟩)
              clear hK K
              try simp only [Act.put, List.setIfInBounds_toArray, List.set_cons_zero, List.set_cons_succ]
              refine takeDh (i := 10) (d := some 48) (v := ?vT52) rfl rfl (by kernel_rfl) (by kernel_rfl) (by kernel_rfl) (fun _ _ _ h => h) (Or.inl ⟨by rfl, ?hyT52⟩) (by assumption) ?rstT52
              case hyT52 => (intro w hSw; (try dsimp only at hSw); go_simp; (try with_reducible rfl))
              try simp only [Act.put, List.setIfInBounds_toArray, List.set_cons_zero, List.set_cons_succ]
              refine takeDh (i := 11) (d := some 59) (v := ?vT53) rfl rfl (by kernel_rfl) (by kernel_rfl) (by kernel_rfl) (fun _ _ _ h => h) (Or.inl ⟨by rfl, ?hyT53⟩) (by assumption) ?rstT53
              case hyT53 => (intro w hSw; (try dsimp only at hSw); go_simp; (try with_reducible rfl))
              try simp only [Act.put, List.setIfInBounds_toArray, List.set_cons_zero, List.set_cons_succ]
              refine takeDh (i := 12) (d := some 60) (v := ?vT54) rfl rfl (by kernel_rfl) (by kernel_rfl) (by kernel_rfl) (fun _ _ _ h => h) (Or.inl ⟨by rfl, ?hyT54⟩) (by assumption) ?rstT54
              case hyT54 => (intro w hSw; (try dsimp only at hSw); go_simp; (try with_reducible rfl))
              try simp only [Act.put, List.setIfInBounds_toArray, List.set_cons_zero, List.set_cons_succ]
              refine takeDh (i := 13) (d := some 61) (v := ?vT55) rfl rfl (by kernel_rfl) (by kernel_rfl) (by kernel_rfl) (fun _ _ _ h => h) (Or.inl ⟨by rfl, ?hyT55⟩) (by assumption) ?rstT55
              case hyT55 => (intro w hSw; (try dsimp only at hSw); go_simp; (try with_reducible rfl))
              try simp only [Act.put, List.setIfInBounds_toArray, List.set_cons_zero, List.set_cons_succ]
              have hne : hbxx ≠ hbyx := (by first | omega | (have := hbxlt; omega) | (have := hbylt; omega))
              obtain ⟨u8, e8, hx8, hC8, hK8⟩ := store9 hbx hC3 (by omega) (.int .i64 kac) (.int .i64 kan) (.int .i64 kak) (.int .i64 kap) (.string kas) (.slice va vm vc) (.int .i64 katc) (.int .i64 katn) (.bool kaon)
              obtain ⟨d0, d1, d2, d3, d4, d5, d6, d7, d8⟩ := box9 hbx
              obtain ⟨dz0, dz1, dz2, dz3, dz4, dz5, dz6, dz7, dz8⟩ := wr9 hbx
              have hy8 := hK8.block hby (by omega)
              have ho8 := own_type ho5 hbx (by decide) hK8
              have hp8 := own_type ho6 hbx (by decide) hK8
              refine wpAnyH_ready (rs := [16]) (by kernel_rfl) (by simp) ?_
              refine AllReadyH.cons rfl (fun K hK => ?_) AllReadyH.nil
              go_simp
              try rw [e8]
              clear hHeld
              refine hK.out _ _ ?hS57 (fun hHeld => ?rest57)
              case' hS57 => (obtain ⟨p0, p1, p2, p3, p4, p5, p6, p7, p8⟩ := cells_of (hM.below hC8).own hx; obtain ⟨q0, q1, q2, q3, q4, q5, q6, q7, q8⟩ := cells_of (hM.below hC8).own hy; exact ⟨p0, p1, p2, p3, p4, p5, p6, p7, p8, q0, q1, q2, q3, q4, q5, q6, q7, q8⟩)
              clear hK K
              try simp only [Act.put, List.setIfInBounds_toArray, List.set_cons_zero, List.set_cons_succ]
              obtain ⟨u9, e9, hy9, hC9, hK9⟩ := store9 hy8 hC8 (by omega) (.int .i64 kbc) (.int .i64 kbn) (.int .i64 kbk) (.int .i64 kbp) (.string kbs) (.slice ua um uc) (.int .i64 kbtc) (.int .i64 kbtn) (.bool kbon)
              obtain ⟨f0, f1, f2, f3, f4, f5, f6, f7, f8⟩ := box9 hy8
              obtain ⟨fz0, fz1, fz2, fz3, fz4, fz5, fz6, fz7, fz8⟩ := wr9 hy8
              have hx9 := hK9.block hx8 (by omega)
              have ho9 := own_type ho8 hy8 (by decide) hK9
              have hp9 := own_type hp8 hy8 (by decide) hK9
              refine wpAnyH_ready (rs := [17]) (by kernel_rfl) (by simp) ?_
              refine AllReadyH.cons rfl (fun K hK => ?_) AllReadyH.nil
              go_simp
              try rw [e9]
              clear hHeld
              refine hK.out _ _ ?hS58 (fun hHeld => ?rest58)
              case' hS58 => (obtain ⟨p0, p1, p2, p3, p4, p5, p6, p7, p8⟩ := cells_of (hM.below hC9).own hx; obtain ⟨q0, q1, q2, q3, q4, q5, q6, q7, q8⟩ := cells_of (hM.below hC9).own hy; exact ⟨p0, p1, p2, p3, p4, p5, p6, p7, p8, q0, q1, q2, q3, q4, q5, q6, q7, q8⟩)
              clear hK K
              try simp only [Act.put, List.setIfInBounds_toArray, List.set_cons_zero, List.set_cons_succ]
              refine takeDh (i := 18) (d := some 13) (v := ?vT59) rfl rfl (by kernel_rfl) (by kernel_rfl) (by kernel_rfl) (fun _ _ _ h => h) (Or.inl ⟨by rfl, ?hyT59⟩) (by assumption) ?rstT59
              case hyT59 => (intro w hSw; (try dsimp only at hSw); go_simp; (try with_reducible rfl))
              try simp only [Act.put, List.setIfInBounds_toArray, List.set_cons_zero, List.set_cons_succ]
              refine wpAnyH_done (by kernel_rfl) ?_ _
          case' b23_2 =>
            go_simp
            obtain ⟨u1, hv⟩ : ∃ V, u0.alloc (Obj.cells #[.int .i64 0, .int .i64 0, .int .i64 0, .int .i64 0, .string ⟨#[]⟩, .slice none 0 0, .int .i64 0, .int .i64 0, .bool false] 34) = V := ⟨_, rfl⟩
            have hb : Below u0.heap.size u0 u1 := by rw [← hv]; exact (Below.refl _ _).alloc (Nat.le_refl _) _
            have hC1 := hC0.trans (hb.mono hC0.size)
            have alt1 := Nat.le_trans alt0 hb.size
            have hby : u1.heap[u0.heap.size]? = some (Obj.cells #[.int .i64 0, .int .i64 0, .int .i64 0, .int .i64 0, .string ⟨#[]⟩, .slice none 0 0, .int .i64 0, .int .i64 0, .bool false] 34) := by rw [← hv]; exact heap_alloc_new _ _
            have hbylo := alt0
            rw [hv]
            generalize u0.heap.size = hbyx at *
            clear hb hv
            clear hHeld
            refine hK.out _ _ ?hS60 (fun hHeld => ?rest60)
            case' hS60 => (obtain ⟨p0, p1, p2, p3, p4, p5, p6, p7, p8⟩ := cells_of (hM.below hC1).own hx; obtain ⟨q0, q1, q2, q3, q4, q5, q6, q7, q8⟩ := cells_of (hM.below hC1).own hy; exact ⟨p0, p1, p2, p3, p4, p5, p6, p7, p8, q0, q1, q2, q3, q4, q5, q6, q7, q8⟩)
            clear hK K
            try simp only [Act.put, List.setIfInBounds_toArray, List.set_cons_zero, List.set_cons_succ]
            refine wpAnyH_ready (rs := [9, 14]) (by kernel_rfl) (by simp) ?_
            refine AllReadyH.cons rfl (fun K hK => ?b61_0) (AllReadyH.cons rfl (fun K hK => ?b61_1) (AllReadyH.nil))
            case' b61_0 =>
              go_simp
              refine (HI.out _ hC1).mono ?_
              rintro e2 u2 ⟨va, vm, vc, ua, um, uc, rfl, ho5, ho6, hb⟩
              have hC2 := hC1.trans (hb.mono hC1.size)
              have alt2 := Nat.le_trans alt1 hb.size
              have hby := (hb.block _ (Array.getElem?_eq_some_iff.1 hby).1).trans hby
              clear hb
              clear hHeld
              refine hK.out _ _ ?hS66 (fun hHeld => ?rest66)
              case' hS66 => (obtain ⟨p0, p1, p2, p3, p4, p5, p6, p7, p8⟩ := cells_of (hM.below hC2).own hx; obtain ⟨q0, q1, q2, q3, q4, q5, q6, q7, q8⟩ := cells_of (hM.below hC2).own hy; exact ⟨p0, p1, p2, p3, p4, p5, p6, p7, p8, q0, q1, q2, q3, q4, q5, q6, q7, q8⟩)
              clear hK K
              try simp only [Act.put, List.setIfInBounds_toArray, List.set_cons_zero, List.set_cons_succ]
              refine takeDh (i := 10) (d := some 48) (v := ?vT62) rfl rfl (by kernel_rfl) (by kernel_rfl) (by kernel_rfl) (fun _ _ _ h => h) (Or.inl ⟨by rfl, ?hyT62⟩) (by assumption) ?rstT62
              case hyT62 => (intro w hSw; (try dsimp only at hSw); go_simp; (try with_reducible rfl))
              try simp only [Act.put, List.setIfInBounds_toArray, List.set_cons_zero, List.set_cons_succ]
              refine takeDh (i := 11) (d := some 59) (v := ?vT63) rfl rfl (by kernel_rfl) (by kernel_rfl) (by kernel_rfl) (fun _ _ _ h => h) (Or.inl ⟨by rfl, ?hyT63⟩) (by assumption) ?rstT63
              case hyT63 => (intro w hSw; (try dsimp only at hSw); go_simp; (try with_reducible rfl))
              try simp only [Act.put, List.setIfInBounds_toArray, List.set_cons_zero, List.set_cons_succ]
              refine takeDh (i := 12) (d := some 60) (v := ?vT64) rfl rfl (by kernel_rfl) (by kernel_rfl) (by kernel_rfl) (fun _ _ _ h => h) (Or.inl ⟨by rfl, ?hyT64⟩) (by assumption) ?rstT64
              case hyT64 => (intro w hSw; (try dsimp only at hSw); go_simp; (try with_reducible rfl))
              try simp only [Act.put, List.setIfInBounds_toArray, List.set_cons_zero, List.set_cons_succ]
              refine takeDh (i := 13) (d := some 61) (v := ?vT65) rfl rfl (by kernel_rfl) (by kernel_rfl) (by kernel_rfl) (fun _ _ _ h => h) (Or.inl ⟨by rfl, ?hyT65⟩) (by assumption) ?rstT65
              case hyT65 => (intro w hSw; (try dsimp only at hSw); go_simp; (try with_reducible rfl))
              try simp only [Act.put, List.setIfInBounds_toArray, List.set_cons_zero, List.set_cons_succ]
              refine wpAnyH_ready (rs := [14]) (by kernel_rfl) (by simp) ?_
              refine AllReadyH.cons rfl (fun K hK => ?_) AllReadyH.nil
              have hbylt : hbyx < u2.heap.size := (Array.getElem?_eq_some_iff.1 hby).1
              go_simp
              obtain ⟨u3, hv⟩ : ∃ V, u2.alloc (Obj.cells #[.int .i64 0, .int .i64 0, .int .i64 0, .int .i64 0, .string ⟨#[]⟩, .slice none 0 0, .int .i64 0, .int .i64 0, .bool false] 34) = V := ⟨_, rfl⟩
              have hb : Below u2.heap.size u2 u3 := by rw [← hv]; exact (Below.refl _ _).alloc (Nat.le_refl _) _
              have hC3 := hC2.trans (hb.mono hC2.size)
              have alt3 := Nat.le_trans alt2 hb.size
              have hby := (hb.block _ (Array.getElem?_eq_some_iff.1 hby).1).trans hby
              have ho5 := ho5.below hb
              have ho6 := ho6.below hb
              have hbx : u3.heap[u2.heap.size]? = some (Obj.cells #[.int .i64 0, .int .i64 0, .int .i64 0, .int .i64 0, .string ⟨#[]⟩, .slice none 0 0, .int .i64 0, .int .i64 0, .bool false] 34) := by rw [← hv]; exact heap_alloc_new _ _
              have hbxlo := alt2
              rw [hv]
              generalize u2.heap.size = hbxx at *
              clear hb hv
              clear hHeld
              refine hK.out _ _ ?hS67 (fun hHeld => ?rest67)
              case' hS67 => (obtain ⟨p0, p1, p2, p3, p4, p5, p6, p7, p8⟩ := cells_of (hM.below hC3).own hx; obtain ⟨q0, q1, q2, q3, q4, q5, q6, q7, q8⟩ := cells_of (hM.below hC3).own hy; exact ⟨p0, p1, p2, p3, p4, p5, p6, p7, p8, q0, q1, q2, q3, q4, q5, q6, q7, q8⟩)
              clear hK K
              try simp only [Act.put, List.setIfInBounds_toArray, List.set_cons_zero, List.set_cons_succ]
              have hne : hbxx ≠ hbyx := (by first | omega | (have := hbxlt; omega) | (have := hbylt; omega))
              obtain ⟨u8, e8, hx8, hC8, hK8⟩ := store9 hbx hC3 (by omega) (.int .i64 kac) (.int .i64 kan) (.int .i64 kak) (.int .i64 kap) (.string kas) (.slice va vm vc) (.int .i64 katc) (.int .i64 katn) (.bool kaon)
              obtain ⟨d0, d1, d2, d3, d4, d5, d6, d7, d8⟩ := box9 hbx
              obtain ⟨dz0, dz1, dz2, dz3, dz4, dz5, dz6, dz7, dz8⟩ := wr9 hbx
              have hy8 := hK8.block hby (by omega)
              have ho8 := own_type ho5 hbx (by decide) hK8
              have hp8 := own_type ho6 hbx (by decide) hK8
              refine wpAnyH_ready (rs := [16]) (by kernel_rfl) (by simp) ?_
              refine AllReadyH.cons rfl (fun K hK => ?_) AllReadyH.nil
              go_simp
              try rw [e8]
              clear hHeld
              refine hK.out _ _ ?hS68 (fun hHeld => ?rest68)
              case' hS68 => (obtain ⟨p0, p1, p2, p3, p4, p5, p6, p7, p8⟩ := cells_of (hM.below hC8).own hx; obtain ⟨q0, q1, q2, q3, q4, q5, q6, q7, q8⟩ := cells_of (hM.below hC8).own hy; exact ⟨p0, p1, p2, p3, p4, p5, p6, p7, p8, q0, q1, q2, q3, q4, q5, q6, q7, q8⟩)
              clear hK K
              try simp only [Act.put, List.setIfInBounds_toArray, List.set_cons_zero, List.set_cons_succ]
              obtain ⟨u9, e9, hy9, hC9, hK9⟩ := store9 hy8 hC8 (by omega) (.int .i64 kbc) (.int .i64 kbn) (.int .i64 kbk) (.int .i64 kbp) (.string kbs) (.slice ua um uc) (.int .i64 kbtc) (.int .i64 kbtn) (.bool kbon)
              obtain ⟨f0, f1, f2, f3, f4, f5, f6, f7, f8⟩ := box9 hy8
              obtain ⟨fz0, fz1, fz2, fz3, fz4, fz5, fz6, fz7, fz8⟩ := wr9 hy8
              have hx9 := hK9.block hx8 (by omega)
              have ho9 := own_type ho8 hy8 (by decide) hK9
              have hp9 := own_type hp8 hy8 (by decide) hK9
              refine wpAnyH_ready (rs := [17]) (by kernel_rfl) (by simp) ?_
              refine AllReadyH.cons rfl (fun K hK => ?_) AllReadyH.nil
              go_simp
              try rw [e9]
              clear hHeld
              refine hK.out _ _ ?hS69 (fun hHeld => ?rest69)
              case' hS69 => (obtain ⟨p0, p1, p2, p3, p4, p5, p6, p7, p8⟩ := cells_of (hM.below hC9).own hx; obtain ⟨q0, q1, q2, q3, q4, q5, q6, q7, q8⟩ := cells_of (hM.below hC9).own hy; exact ⟨p0, p1, p2, p3, p4, p5, p6, p7, p8, q0, q1, q2, q3, q4, q5, q6, q7, q8⟩)
              clear hK K
              try simp only [Act.put, List.setIfInBounds_toArray, List.set_cons_zero, List.set_cons_succ]
              refine takeDh (i := 18) (d := some 13) (v := ?vT70) rfl rfl (by kernel_rfl) (by kernel_rfl) (by kernel_rfl) (fun _ _ _ h => h) (Or.inl ⟨by rfl, ?hyT70⟩) (by assumption) ?rstT70
              case hyT70 => (intro w hSw; (try dsimp only at hSw); go_simp; (try with_reducible rfl))
              try simp only [Act.put, List.setIfInBounds_toArray, List.set_cons_zero, List.set_cons_succ]
              refine wpAnyH_done (by kernel_rfl) ?_ _
            case' b61_1 =>
              have hbylt : hbyx < u1.heap.size := (Array.getElem?_eq_some_iff.1 hby).1
              go_simp
              obtain ⟨u2, hv⟩ : ∃ V, u1.alloc (Obj.cells #[.int .i64 0, .int .i64 0, .int .i64 0, .int .i64 0, .string ⟨#[]⟩, .slice none 0 0, .int .i64 0, .int .i64 0, .bool false] 34) = V := ⟨_, rfl⟩
              have hb : Below u1.heap.size u1 u2 := by rw [← hv]; exact (Below.refl _ _).alloc (Nat.le_refl _) _
              have hC2 := hC1.trans (hb.mono hC1.size)
              have alt2 := Nat.le_trans alt1 hb.size
              have hby := (hb.block _ (Array.getElem?_eq_some_iff.1 hby).1).trans hby
              have hbx : u2.heap[u1.heap.size]? = some (Obj.cells #[.int .i64 0, .int .i64 0, .int .i64 0, .int .i64 0, .string ⟨#[]⟩, .slice none 0 0, .int .i64 0, .int .i64 0, .bool false] 34) := by rw [← hv]; exact heap_alloc_new _ _
              have hbxlo := alt1
              rw [hv]
              generalize u1.heap.size = hbxx at *
              clear hb hv
              clear hHeld
              refine hK.out _ _ ?hS71 (fun hHeld => ?rest71)
              case' hS71 => (obtain ⟨p0, p1, p2, p3, p4, p5, p6, p7, p8⟩ := cells_of (hM.below hC2).own hx; obtain ⟨q0, q1, q2, q3, q4, q5, q6, q7, q8⟩ := cells_of (hM.below hC2).own hy; exact ⟨p0, p1, p2, p3, p4, p5, p6, p7, p8, q0, q1, q2, q3, q4, q5, q6, q7, q8⟩)
              clear hK K
              try simp only [Act.put, List.setIfInBounds_toArray, List.set_cons_zero, List.set_cons_succ]
              refine wpAnyH_ready (rs := [9]) (by kernel_rfl) (by simp) ?_
              refine AllReadyH.cons rfl (fun K hK => ?_) AllReadyH.nil
              go_simp
              refine (HI.out _ hC2).mono ?_
              rintro e2 u3 ⟨va, vm, vc, ua, um, uc, rfl, ho5, ho6, hb⟩
              have hC3 := hC2.trans (hb.mono hC2.size)
              have alt3 := Nat.le_trans alt2 hb.size
              have hby := (hb.block _ (Array.getElem?_eq_some_iff.1 hby).1).trans hby
              have hbx := (hb.block _ (Array.getElem?_eq_some_iff.1 hbx).1).trans hbx
              clear hb
              clear hHeld
              refine hK.out _ _ ?hS76 (fun hHeld => ?rest76)
              case' hS76 => (obtain ⟨p0, p1, p2, p3, p4, p5, p6, p7, p8⟩ := cells_of (hM.below hC3).own hx; obtain ⟨q0, q1, q2, q3, q4, q5, q6, q7, q8⟩ := cells_of (hM.below hC3).own hy; exact ⟨p0, p1, p2, p3, p4, p5, p6, p7, p8, q0, q1, q2, q3, q4, q5, q6, q7, q8⟩)
              clear hK K
              try simp only [Act.put, List.setIfInBounds_toArray, List.set_cons_zero, List.set_cons_succ]
              refine takeDh (i := 10) (d := some 48) (v := ?vT72) rfl rfl (by kernel_rfl) (by kernel_rfl) (by kernel_rfl) (fun _ _ _ h => h) (Or.inl ⟨by rfl, ?hyT72⟩) (by assumption) ?rstT72
              case hyT72 => (intro w hSw; (try dsimp only at hSw); go_simp; (try with_reducible rfl))
              try simp only [Act.put, List.setIfInBounds_toArray, List.set_cons_zero, List.set_cons_succ]
              refine takeDh (i := 11) (d := some 59) (v := ?vT73) rfl rfl (by kernel_rfl) (by kernel_rfl) (by kernel_rfl) (fun _ _ _ h => h) (Or.inl ⟨by rfl, ?hyT73⟩) (by assumption) ?rstT73
              case hyT73 => (intro w hSw; (try dsimp only at hSw); go_simp; (try with_reducible rfl))
              try simp only [Act.put, List.setIfInBounds_toArray, List.set_cons_zero, List.set_cons_succ]
              refine takeDh (i := 12) (d := some 60) (v := ?vT74) rfl rfl (by kernel_rfl) (by kernel_rfl) (by kernel_rfl) (fun _ _ _ h => h) (Or.inl ⟨by rfl, ?hyT74⟩) (by assumption) ?rstT74
              case hyT74 => (intro w hSw; (try dsimp only at hSw); go_simp; (try with_reducible rfl))
              try simp only [Act.put, List.setIfInBounds_toArray, List.set_cons_zero, List.set_cons_succ]
              refine takeDh (i := 13) (d := some 61) (v := ?vT75) rfl rfl (by kernel_rfl) (by kernel_rfl) (by kernel_rfl) (fun _ _ _ h => h) (Or.inl ⟨by rfl, ?hyT75⟩) (by assumption) ?rstT75
              case hyT75 => (intro w hSw; (try dsimp only at hSw); go_simp; (try with_reducible rfl))
              try simp only [Act.put, List.setIfInBounds_toArray, List.set_cons_zero, List.set_cons_succ]
              have hne : hbxx ≠ hbyx := (by first | omega | (have := hbxlt; omega) | (have := hbylt; omega))
              obtain ⟨u8, e8, hx8, hC8, hK8⟩ := store9 hbx hC3 (by omega) (.int .i64 kac) (.int .i64 kan) (.int .i64 kak) (.int .i64 kap) (.string kas) (.slice va vm vc) (.int .i64 katc) (.int .i64 katn) (.bool kaon)
              obtain ⟨d0, d1, d2, d3, d4, d5, d6, d7, d8⟩ := box9 hbx
              obtain ⟨dz0, dz1, dz2, dz3, dz4, dz5, dz6, dz7, dz8⟩ := wr9 hbx
              have hy8 := hK8.block hby (by omega)
              have ho8 := own_type ho5 hbx (by decide) hK8
              have hp8 := own_type ho6 hbx (by decide) hK8
              refine wpAnyH_ready (rs := [16]) (by kernel_rfl) (by simp) ?_
              refine AllReadyH.cons rfl (fun K hK => ?_) AllReadyH.nil
              go_simp
              try rw [e8]
              clear hHeld
              refine hK.out _ _ ?hS77 (fun hHeld => ?rest77)
              case' hS77 => (obtain ⟨p0, p1, p2, p3, p4, p5, p6, p7, p8⟩ := cells_of (hM.below hC8).own hx; obtain ⟨q0, q1, q2, q3, q4, q5, q6, q7, q8⟩ := cells_of (hM.below hC8).own hy; exact ⟨p0, p1, p2, p3, p4, p5, p6, p7, p8, q0, q1, q2, q3, q4, q5, q6, q7, q8⟩)
              clear hK K
              try simp only [Act.put, List.setIfInBounds_toArray, List.set_cons_zero, List.set_cons_succ]
              obtain ⟨u9, e9, hy9, hC9, hK9⟩ := store9 hy8 hC8 (by omega) (.int .i64 kbc) (.int .i64 kbn) (.int .i64 kbk) (.int .i64 kbp) (.string kbs) (.slice ua um uc) (.int .i64 kbtc) (.int .i64 kbtn) (.bool kbon)
              obtain ⟨f0, f1, f2, f3, f4, f5, f6, f7, f8⟩ := box9 hy8
              obtain ⟨fz0, fz1, fz2, fz3, fz4, fz5, fz6, fz7, fz8⟩ := wr9 hy8
              have hx9 := hK9.block hx8 (by omega)
              have ho9 := own_type ho8 hy8 (by decide) hK9
              have hp9 := own_type hp8 hy8 (by decide) hK9
              refine wpAnyH_ready (rs := [17]) (by kernel_rfl) (by simp) ?_
              refine AllReadyH.cons rfl (fun K hK => ?_) AllReadyH.nil
              go_simp
              try rw [e9]
              clear hHeld
              refine hK.out _ _ ?hS78 (fun hHeld => ?rest78)
              case' hS78 => (obtain ⟨p0, p1, p2, p3, p4, p5, p6, p7, p8⟩ := cells_of (hM.below hC9).own hx; obtain ⟨q0, q1, q2, q3, q4, q5, q6, q7, q8⟩ := cells_of (hM.below hC9).own hy; exact ⟨p0, p1, p2, p3, p4, p5, p6, p7, p8, q0, q1, q2, q3, q4, q5, q6, q7, q8⟩)
              clear hK K
              try simp only [Act.put, List.setIfInBounds_toArray, List.set_cons_zero, List.set_cons_succ]
              refine takeDh (i := 18) (d := some 13) (v := ?vT79) rfl rfl (by kernel_rfl) (by kernel_rfl) (by kernel_rfl) (fun _ _ _ h => h) (Or.inl ⟨by rfl, ?hyT79⟩) (by assumption) ?rstT79
              case hyT79 => (intro w hSw; (try dsimp only at hSw); go_simp; (try with_reducible rfl))
              try simp only [Act.put, List.setIfInBounds_toArray, List.set_cons_zero, List.set_cons_succ]
              refine wpAnyH_done (by kernel_rfl) ?_ _
          all_goals
            clear hHeld
            go_wp2_with fail
            go_meet
            case rel => exact ⟨_, _, va, vm, vc, ua, um, uc, rfl, rfl, rfl, hx9, hy9, hC9, by omega, by omega, ho9.mono (by first | exact alt0 | exact alt1 | exact alt2), hp9.mono (by first | exact alt0 | exact alt1 | exact alt2)⟩
        case rest =>
          obtain ⟨bx, by_, va, vm, vc, ua, um, uc, rfl, rfl, rfl, hxb, hyb, hC8, lo1, lo2, ho8, hp8⟩ := hcut
          clear HI p0 q0 p1 q1 p2 q2 p3 q3 p4 q4 p5 q5 p6 q6 p7 q7 p8 q8 hC alt
          by_cases hz : z = 0
          · subst hz
            have HN9 := HS3.out rfl va vm vc ua um uc
            obtain ⟨W9, W8, e9, e8, hM8, ⟨d0, d1, d2, d3, d4, d5, d6, d7, d8⟩, ⟨dz0, dz1, dz2, dz3, dz4, dz5, dz6, dz7, dz8⟩, ⟨h0, h1, h2, h3, h4, h5, h6, h7, h8⟩, ⟨hz0, hz1, hz2, hz3, hz4, hz5, hz6, hz7, hz8⟩⟩ := HST.out _ va vm vc ua um uc hC8 (.inr ho8) (.inr hp8)
            have HM8 : Hid (MemB w (some ⟨g, 0, none⟩) n c1 W8 _) := hM8
            have HN8 : Hid _ := HN9
            have hyb9 := (put9_other e9 (b := by_) (by omega)).trans hyb
            obtain ⟨xq0, xq1, xq2, xq3, xq4, xq5, xq6, xq7, xq8⟩ := box9 hxb
            obtain ⟨yq0, yq1, yq2, yq3, yq4, yq5, yq6, yq7, yq8⟩ := box9 hyb9
            clear hM8 HN9 HST HS3 HS5 hM hxb hyb hyb9 ho8 hp8 hC8 hx hy
            go_upto_if 76 with fail
            cases tb with
            | true =>
              have h3 : (t : Int) < (f : Int) := of_decide_eq_true htb
              have h1 := (HTT.out rfl).1
              have h2 : IntKind.i64.wrap ((f : Int) - 1) = (nf : Int) := by rw [h1]; exact IntWalk.i64_in _ (by omega)
              go_wp2_with fail
              go_roundw
              case rel => first | exact ⟨nf, _, by first | rfl | rw [h1], hff, HN8, HM8⟩ | ((repeat apply Exists.intro); exact ⟨⟨nf, _, by first | rfl | rw [h1], hff, HN8, HM8⟩, rfl⟩)
              case measure => (try rw [h1]); exact HDD.out
            | false =>
              have h3 : ¬ ((t : Int) < (f : Int)) := of_decide_eq_false htb
              have h1 := (HTF.out rfl).1
              have h2 : IntKind.i64.wrap ((f : Int) + 1) = (nf : Int) := by rw [h1]; exact IntWalk.i64_in _ (by omega)
              go_wp2_with fail
              go_roundw
              case rel => first | exact ⟨nf, _, by first | rfl | rw [h1], hff, HN8, HM8⟩ | ((repeat apply Exists.intro); exact ⟨⟨nf, _, by first | rfl | rw [h1], hff, HN8, HM8⟩, rfl⟩)
              case measure => (try rw [h1]); exact HDD.out
          · obtain rfl := HS5.out hz
            have hbw := hM.bel.trans (hC8.mono hM.bel.size)
            have t1 : (z == 0) = false := beq_eq_false_iff_ne.2 hz
            have t2 : (z != 0) = true := by simp [bne, t1]
            have t3 : decide (z = 0) = false := decide_eq_false hz
            clear HST HS3 HS5 hM hxb hyb ho8 hp8
            go_wp2_with fail
            refine bodyPost_ret (v := .tuple #[.slice none 0 0, .int .i64 z]) (by simp [results, Tryz.results58, go_sem]) rfl ⟨none, 0, 0, rfl, runIn_nil _, hbw⟩
theorem gBring_any {w : World} {a : Option Addr} {n cap : Nat} {L : List OpM} (hL : Rw opF 9 w a n cap L) (rL : ∀ x ∈ L, OpOk w x) (hn : n ≤ 1048576) (fr tt_ : Int) : Calls Tryz.prog 58 #[.slice a n cap, .int .i64 fr, .int .i64 tt_] w fun e w' => AnsB w (xBring (L.map (·.1)) fr tt_) e w' := by
  have ln := hL.len
  unfold xBring
  by_cases h1 : firstErr (L.map (·.1)) ≠ 0
  · rw [if_pos h1]
    exact gbring_err1 hL rL h1
  · rw [if_neg h1]
    have h1 := Classical.not_not.1 h1
    rw [List.length_map, ln]
    by_cases h2 : fr < 0 ∨ (n : Int) ≤ fr ∨ tt_ < 0 ∨ (n : Int) ≤ tt_
    · rw [if_pos h2]
      exact gbring_err2 hL rL h1 h2
    · rw [if_neg h2]
      have e1 : fr = (fr.toNat : Int) := by omega
      have e2 : tt_ = (tt_.toNat : Int) := by omega
      have := gbring_run (f0 := fr.toNat) (t := tt_.toNat) hL rL hn h1 (by omega) (by omega)
      rw [← e1, ← e2] at this
      exact this
end Go.Proofs.YtmdnmhdimfglaaaGreatDoor
