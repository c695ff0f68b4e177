import Derived.Test.YtokclnjaglklhaaDoorRxAB
import Derived.Test.YtokclnjaglklhaaDoorRsWB
import Derived.Test.YtokclnjaglklhaaDoorRrAC
import Derived.Sort.QuietIn
import Derived.Lib.QuietBelowIn
import Derived.Sort.CutIn
import Derived.Sort.QuietTacIn
import Derived.LoopIn
/-! The rope's Cells. -/
namespace Go.Proofs.YtokclnjaglklhaaDoor
open Go.RowKit Go.Lib Go.Shelf Go.Sort
set_option maxRecDepth 100000
attribute [local go_sem] Oper.semAt_some

theorem gvAt : ∀ (l : List (List Int × Int)) (f lo hi : Int), ∀ y ∈ gv l f lo hi, f ≤ y.1 ∧ y.1 + y.2.1.length ≤ f + (rowOf l).length
  | [], _, _, _, y, hy => by cases hy
  | p :: t, f, lo, hi, y, hy => by
    have e : ((rowOf (p :: t)).length : Int) = p.1.length + (rowOf t).length := by rw [rowOf_cons, List.length_append, List.length_map]; omega
    rw [e]
    rcases List.mem_append.1 hy with hy | hy
    · unfold one at hy
      split at hy
      · simp at hy
        subst hy
        simp only [List.length_drop, List.length_take]
        omega
      · cases hy
    · have := gvAt t _ lo hi y hy
      omega
set_option maxHeartbeats 8000000 in
theorem cells1_seq (n : Nat) (hn : 4 ≤ n) {w : World} {t : Tr} {b0 : Nat} {lb : Array Value} {lo hi : Int} (hrow : (rowOf t.lv).length ≤ 2097152) (k0 : w.cell? ⟨b0, 0, none⟩ = some (.func (.func 35) #[] lb)) (l0 : b0 < w.heap.size)
    (hseq : ∀ n, SeqV Fence.wide n Tryd.prog 35 lb Pc.encs KpT Pc.V (fun xs => xs.map Pc.dat = gv t.lv 0 lo hi) (fun xs => xs.map Pc.dat <+: gv t.lv 0 lo hi) w) :
    SeqW Fence.wide n Tryd.prog 17 #[.pointer (some ⟨b0, 0, none⟩)] clE KpA (fun _ _ => True) (fun xs => xs = clG (gv t.lv 0 lo hi)) (fun pre => pre <+: clG (gv t.lv 0 lo hi)) w := by
  intro l J Jx W hb hJ hJx hY h0
  have k1 := (hb.cell (p := ⟨b0, 0, none⟩) l0).trans k0
  have HSQ : Hid (∀ n, SeqV Fence.wide n Tryd.prog 35 lb Pc.encs KpT Pc.V (fun xs => xs.map Pc.dat = gv t.lv 0 lo hi) (fun xs => xs.map Pc.dat <+: gv t.lv 0 lo hi) w) := hseq
  have HY : Hid (∀ m pre x W1, J pre W1 → True → pre ++ [x] <+: clG (gv t.lv 0 lo hi) → YieldAt Fence.wide m Tryd.prog l (clE x) W1 fun e W' => KeepsFrom W.heap.size W1 W' ∧ ((e = .returned (.bool true) ∧ J (pre ++ [x]) W' ∧ KpA W.heap.size W1 W') ∨ (e = .returned (.bool false) ∧ Jx (pre ++ [x]) W'))) := hY
  have HJ : Hid (OwnFrom W.heap.size J ∧ OwnFrom W.heap.size Jx) := ⟨hJ, hJx⟩
  have k2 := fun o => cell_al k1 o
  clear hseq hY hJ hJx k0
  refine callsIn_of_wp_marks Tryd.func17 rfl trivial ?_ rfl
  simp only [Tryd.ntmps17, List.size_toArray, List.length_cons, List.length_nil, Nat.reduceAdd, Nat.reduceSub, Array.replicate_succ, Array.replicate_zero, List.push_toArray, List.append_toArray, List.nil_append, List.cons_append]
  gi_wp2
  obtain ⟨wa, ewa⟩ : ∃ X, W.alloc (.cells #[.func (.yield l) #[] #[]] 61) = X := ⟨_, rfl⟩
  have hba : Below W.heap.size W wa := ewa ▸ (Below.refl _ _).alloc (Nat.le_refl _) _
  have hbox : wa.heap[W.heap.size]? = some (.cells #[.func (.yield l) #[] #[]] 61) := ewa ▸ World.alloc_heap_new _ _
  have hsz : wa.heap.size = W.heap.size + 1 := by rw [← ewa]; simp [World.size_alloc]
  rw [ewa]
  have hJa : J [] wa := HJ.out.1 _ _ _ none h0 (grown_of_below hba) (fun r e => by cases e)
  clear ewa k1 k2 h0
  refine rangeV (α := Pc) rfl rfl (by omega) (gf := 35) (lb := lb) rfl trivial (enters_of Tryd.func35 (by kernel_rfl) rfl) (HSQ.out _) KpT.trans kpT_b (hb.trans (hba.mono hb.size)) (fun _ => rfl)
    (fun (pre : List Pc) X => J (clG (pre.map Pc.dat)) X ∧ X.heap[W.heap.size]? = some (.cells #[.func (.yield l) #[] #[]] 61)) (fun c _ X => c = .ret ∧ ∃ pre', pre' <+: clG (gv t.lv 0 lo hi) ∧ Jx pre' X)
    (fun s A B row hs hg hr => ⟨HJ.out.1 _ A B row hs.1 hg (fun r e => ⟨by have := (hr r e).1; omega, (hr r e).2⟩), (hg.block _ (Array.getElem?_eq_some_iff.1 hs.2).1 (fun e => by obtain ⟨_, o, ho, hc⟩ := hr _ e.symm; rw [hs.2] at ho; cases ho; simp [Obj.isCells] at hc)).trans hs.2⟩)
    (fun c s A B row hs hg hr => ⟨hs.1, by obtain ⟨p', h1, h2⟩ := hs.2; exact ⟨p', h1, HJ.out.2 _ A B row h2 hg (fun r e => ⟨by have := (hr r e).1; omega, (hr r e).2⟩)⟩⟩) (fun x => pc_own _ x) ⟨hJa, hbox⟩
    (fun x => { tmps := #[.func (.yield l) #[] #[], .pointer (some ⟨b0, 0, none⟩), .pointer (some ⟨W.heap.size, 0, none⟩), .int .i64 x.at_, .pointer (some ⟨x.g, 0, none⟩), undef, undef, .func (.func 35) #[] lb, .int .i64 x.at_, .pointer (some ⟨x.g, 0, none⟩), undef, undef, undef, undef, undef, undef, undef, undef, undef, undef, undef, undef, undef, undef, undef, undef, undef, undef, undef, undef, undef, undef, undef, undef], defers := [] }) ?assign ?body ?done ?stop
  case assign =>
    intro lp x X K hK
    simp only [Pc.encs]
    gi_wp2
    exact hK
  case body =>
    rintro lp pre x X ⟨hJ1, hbx⟩ hV hsp
    have hV0 := hV
    obtain ⟨st, hA, hfine, h32, hokx⟩ := hV
    have hat := gvAt t.lv 0 lo hi x.dat (hsp.subset (by simp))
    have HPF : Hid (clG (pre.map Pc.dat) ++ enF x.at_ (x.rs.map fun c => (c, x.h)) <+: clG (gv t.lv 0 lo hi)) := by
      show _ <+: _
      have := clG_pre hsp
      rw [List.map_append, clG_append] at this
      simpa [clG, Pc.dat] using this
    have hatb : 0 ≤ x.at_ ∧ x.at_ + (x.rs.length : Int) ≤ 2097152 := by have h1 : 0 ≤ x.at_ ∧ x.at_ + (x.rs.length : Int) ≤ 0 + ((rowOf t.lv).length : Int) := hat; omega
    obtain ⟨a, cap, hN, hrw⟩ := id hA
    have c10 := hN.four.1
    have hroom := hrw.rw_.room
    have HRW : Hid (RwN X a x.rs.length cap x.rs) := hrw
    have HAT : Hid (At X (Tr.leaf x.rs x.h st) x.g) := hA
    clear hat hsp hN hrw hfine hokx hA hV0
    gi_wp2
    gi_loopw [5, 6, 15] (fun _ _ v Y => ∃ j : Nat, j ≤ x.rs.length ∧ v = .int .i64 (j : Int) ∧ J (clG (pre.map Pc.dat) ++ enF x.at_ ((x.rs.take j).map fun c => (c, x.h))) Y ∧ KpA (W.heap.size) X Y) (fun _ _ v _ => x.rs.length - (RowKit.intOf v).toNat)
    case atStart => exact ⟨0, Nat.zero_le _, rfl, by simpa [enF] using hJ1, KpA.below (Below.refl _ _)⟩
    case round =>
      obtain ⟨j, hj, rfl, hJj, hKj⟩ := hrel
      generalize wr = Y at *
      by_cases hlt : j < x.rs.length
      · have hA2 := HAT.out.kpT hKj.kpT
        have hrw2 := HRW.out.keep (fun h0 gr off e => by obtain ⟨cs, fr, hh⟩ := HRW.out.typ h0 gr off e; exact hKj.kpT.rune gr cs fr hh) hKj.kpT.size
        obtain ⟨gr, off, r, rfl, hgr, hx, hc⟩ := hrw2.rw_.at j hlt
        have hcx : Y.cell? ⟨gr, off + j, none⟩ = some (.int .i32 r) := by simpa using hc 0 (.int .i32 r) rfl
        have hby := (hKj.all W.heap.size (Nat.le_refl _) (Array.getElem?_eq_some_iff.1 hbx).1).trans hbx
        have cb : Y.cell? ⟨W.heap.size, 0, none⟩ = some (.func (.yield l) #[] #[]) := by rw [Lib.cell_of_heap hby]; rfl
        obtain ⟨c0, c1, c2, c3, c4, c5, c6, c7, c8, c9⟩ := hA2.ten
        have HHID : Hid (∀ Z, Calls Tryd.prog 18 #[.agg (Tr.leaf x.rs x.h st).sm.vals] Z fun e w' => e = .returned (.int .i64 x.h) ∧ Below Z.heap.size Z w') := fun Z => smHid_any (Tr.leaf x.rs x.h st).sm Z
        have u5 : IntKind.i64.wrap (x.at_ + (j : Int)) = x.at_ + (j : Int) := IntWalk.i64_in _ (by omega)
        have HSU : Hid (enF x.at_ ((x.rs.take (j + 1)).map fun c => (c, x.h)) = enF x.at_ ((x.rs.take j).map fun c => (c, x.h)) ++ [(x.at_ + (j : Int), r, x.h)]) := by
          show _ = _
          rw [List.take_add_one, hx, Option.toList_some, List.map_append, enF_append, List.length_map, List.length_take, Nat.min_eq_left (by omega)]
          rfl
        have HPJ : Hid ((clG (pre.map Pc.dat) ++ enF x.at_ ((x.rs.take j).map fun c => (c, x.h))) ++ [(x.at_ + (j : Int), r, x.h)] <+: clG (gv t.lv 0 lo hi)) := by
          show _ <+: _
          rw [List.append_assoc, ← HSU.out]
          refine List.IsPrefix.trans ((List.prefix_append_right_inj _).2 ?_) HPF.out
          conv => rhs; rw [← List.take_append_drop (j + 1) x.rs, List.map_append, enF_append]
          exact List.prefix_append _ _
        have HYZ : Hid (∀ Z, Below Y.heap.size Y Z → YieldAt Fence.wide (n - 1 - 1 - 1) Tryd.prog l #[.int .i64 (x.at_ + (j : Int)), .agg #[.int .i32 r, .int .i64 x.h]] Z fun e W' => KeepsFrom W.heap.size Z W' ∧ ((e = .returned (.bool true) ∧ J ((clG (pre.map Pc.dat) ++ enF x.at_ ((x.rs.take j).map fun c => (c, x.h))) ++ [(x.at_ + (j : Int), r, x.h)]) W' ∧ KpA W.heap.size Z W') ∨ (e = .returned (.bool false) ∧ Jx ((clG (pre.map Pc.dat) ++ enF x.at_ ((x.rs.take j).map fun c => (c, x.h))) ++ [(x.at_ + (j : Int), r, x.h)]) W'))) := fun Z hZ => HY.out _ _ (x.at_ + (j : Int), r, x.h) Z (HJ.out.1 _ Y Z none hJj (grown_of_below hZ) (fun r e => by cases e)) trivial HPJ.out
        have hjj : (j : Int) < (x.rs.length : Int) := by omega
        clear hc hx hA2 hrw2 hJj hby
        gi_wp2
        refine region_round (F := Fence.wide) (by kernel_rfl) (by kernel_rfl) ?_
        change wpAnyIn _ _ _ _ _ _ _ _ _ Y.drew
        refine takeR (i := 1) (d := some 21) (v := ?vT1) rfl rfl rfl (by kernel_rfl) (by kernel_rfl) (by kernel_rfl) (fun _ _ _ h => h) ⟨Or.inl ⟨by rfl, ?hyT1⟩, fun _ => rfl⟩ ?rsT1
        case hyT1 => (intro w; go_simp; (try with_reducible rfl))
        try simp only [Act.put, List.setIfInBounds_toArray, List.set_cons_zero, List.set_cons_succ]
        refine takeR (i := 2) (d := some 22) (v := ?vT2) rfl rfl rfl (by kernel_rfl) (by kernel_rfl) (by kernel_rfl) (fun _ _ _ h => h) ⟨Or.inl ⟨by rfl, ?hyT2⟩, fun _ => rfl⟩ ?rsT2
        case hyT2 => (intro w; go_simp; (try with_reducible rfl))
        try simp only [Act.put, List.setIfInBounds_toArray, List.set_cons_zero, List.set_cons_succ]
        refine takeR (i := 3) (d := some 23) (v := ?vT3) rfl rfl rfl (by kernel_rfl) (by kernel_rfl) (by kernel_rfl) (fun _ _ _ h => h) ⟨Or.inl ⟨by rfl, ?hyT3⟩, fun _ => rfl⟩ ?rsT3
        case hyT3 => (intro w; go_simp; (try with_reducible rfl))
        try simp only [Act.put, List.setIfInBounds_toArray, List.set_cons_zero, List.set_cons_succ]
        refine takeR (i := 4) (d := some 24) (v := ?vT4) rfl rfl rfl (by kernel_rfl) (by kernel_rfl) (by kernel_rfl) (fun _ _ _ h => h) ⟨Or.inl ⟨by rfl, ?hyT4⟩, fun _ => rfl⟩ ?rsT4
        case hyT4 => (intro w; go_simp; (try with_reducible rfl))
        try simp only [Act.put, List.setIfInBounds_toArray, List.set_cons_zero, List.set_cons_succ]
        refine takeR (i := 5) (d := some 25) (v := ?vT5) rfl rfl rfl (by kernel_rfl) (by kernel_rfl) (by kernel_rfl) (fun _ _ _ h => h) ⟨Or.inl ⟨by rfl, ?hyT5⟩, fun _ => rfl⟩ ?rsT5
        case hyT5 => (intro w; go_simp; (try with_reducible rfl))
        try simp only [Act.put, List.setIfInBounds_toArray, List.set_cons_zero, List.set_cons_succ]
        refine takeR (i := 6) (d := some 26) (v := ?vT6) rfl rfl rfl (by kernel_rfl) (by kernel_rfl) (by kernel_rfl) (fun _ _ _ h => h) ⟨Or.inl ⟨by rfl, ?hyT6⟩, fun _ => rfl⟩ ?rsT6
        case hyT6 => (intro w; go_simp; (try with_reducible rfl))
        try simp only [Act.put, List.setIfInBounds_toArray, List.set_cons_zero, List.set_cons_succ]
        refine takeR (i := 7) (d := some 27) (v := ?vT7) rfl rfl rfl (by kernel_rfl) (by kernel_rfl) (by kernel_rfl) (fun _ _ _ h => h) ⟨Or.inl ⟨by rfl, ?hyT7⟩, fun _ => rfl⟩ ?rsT7
        case hyT7 => (intro w; go_simp; (try with_reducible rfl))
        try simp only [Act.put, List.setIfInBounds_toArray, List.set_cons_zero, List.set_cons_succ]
        refine wpAnyIn_ready (rs := [0, 8]) (by kernel_rfl) (by simp) (AllReadyIn.cons rfl (fun K hK => ?b26) (AllReadyIn.cons rfl (fun K hK => ?b27) AllReadyIn.nil))
        case b26 =>
          go_simp
          refine hK _ _ ?_
          clear hK K
          try simp only [Act.put, List.setIfInBounds_toArray, List.set_cons_zero, List.set_cons_succ]
          refine wpAnyIn_ready (rs := [8]) (by kernel_rfl) (by simp) (AllReadyIn.cons rfl (fun K hK => ?b13) AllReadyIn.nil)
          case b13 =>
            go_simp
            refine hK _ _ ?_
            clear hK K
            try simp only [Act.put, List.setIfInBounds_toArray, List.set_cons_zero, List.set_cons_succ]
            refine wpAnyIn_ready (rs := [9]) (by kernel_rfl) (by simp) (AllReadyIn.cons rfl (fun K hK => ?b12) AllReadyIn.nil)
            case b12 =>
              go_simp
              refine ⟨trivial, fun h => (by cases h), (callsIn_wide.2 (HHID.out _)).mono ?_⟩
              rintro e Z ⟨rfl, hbZ⟩
              have hbZ2 : Below Y.heap.size Y Z := ((Below.refl Y.heap.size Y).drew).trans hbZ
              have cbz := (hbZ2.cell (p := ⟨W.heap.size, 0, none⟩) (World.block_lt_of_cell? _ _ cb)).trans cb
              clear hbZ
              refine hK _ _ ?_
              clear hK K
              try simp only [Act.put, List.setIfInBounds_toArray, List.set_cons_zero, List.set_cons_succ]
              refine takeR (i := 10) (d := some 30) (v := ?vT8) rfl rfl rfl (by kernel_rfl) (by kernel_rfl) (by kernel_rfl) (fun _ _ _ h => h) ⟨Or.inl ⟨by rfl, ?hyT8⟩, fun _ => rfl⟩ ?rsT8
              case hyT8 => (intro w; go_simp; (try with_reducible rfl))
              try simp only [Act.put, List.setIfInBounds_toArray, List.set_cons_zero, List.set_cons_succ]
              refine wpAnyIn_ready (rs := [11]) (by kernel_rfl) (by simp) (AllReadyIn.cons rfl (fun K hK => ?b11) AllReadyIn.nil)
              case b11 =>
                obtain ⟨fn, tmps, asg, body, hy, hR⟩ := HYZ.out Z hbZ2
                go_simp
                refine ⟨fun h => (by cases h), hR.mono ?_⟩
                rintro e W4 ⟨hkf, (⟨rfl, hJ4, hk4⟩ | ⟨rfl, hx4⟩)⟩
                · refine hK _ _ ?_
                  clear hK K
                  try simp only [Act.put, List.setIfInBounds_toArray, List.set_cons_zero, List.set_cons_succ]
                  refine takeR (i := 12) (d := some 32) (v := ?vT9) rfl rfl rfl (by kernel_rfl) (by kernel_rfl) (by kernel_rfl) (fun _ _ _ h => h) ⟨Or.inl ⟨by rfl, ?hyT9⟩, fun _ => rfl⟩ ?rsT9
                  case hyT9 => (intro w; go_simp; (try with_reducible rfl))
                  try simp only [Act.put, List.setIfInBounds_toArray, List.set_cons_zero, List.set_cons_succ]
                  refine wpAnyIn_done (by kernel_rfl) ?_ _
                  gi_wp2
                  exact ⟨⟨j + 1, by omega, by simp, by rw [HSU.out, ← List.append_assoc]; exact hJ4, (hKj.trans (KpA.below hbZ2)).trans hk4⟩, by simp [RowKit.intOf]; omega⟩
                · refine hK _ _ ?_
                  clear hK K
                  try simp only [Act.put, List.setIfInBounds_toArray, List.set_cons_zero, List.set_cons_succ]
                  refine takeR (i := 12) (d := some 32) (v := ?vT10) rfl rfl rfl (by kernel_rfl) (by kernel_rfl) (by kernel_rfl) (fun _ _ _ h => h) ⟨Or.inl ⟨by rfl, ?hyT10⟩, fun _ => rfl⟩ ?rsT10
                  case hyT10 => (intro w; go_simp; (try with_reducible rfl))
                  try simp only [Act.put, List.setIfInBounds_toArray, List.set_cons_zero, List.set_cons_succ]
                  refine wpAnyIn_done (by kernel_rfl) ?_ _
                  gi_wp2
                  exact ⟨keepsFrom_up ((hKj.trans (KpA.below hbZ2)).from_.trans hkf) (by omega), rfl, _, HPJ.out, hx4⟩
        case b27 =>
          go_simp
          refine hK _ _ ?_
          clear hK K
          try simp only [Act.put, List.setIfInBounds_toArray, List.set_cons_zero, List.set_cons_succ]
          refine wpAnyIn_ready (rs := [0, 9]) (by kernel_rfl) (by simp) (AllReadyIn.cons rfl (fun K hK => ?b24) (AllReadyIn.cons rfl (fun K hK => ?b25) AllReadyIn.nil))
          case b24 =>
            go_simp
            refine hK _ _ ?_
            clear hK K
            try simp only [Act.put, List.setIfInBounds_toArray, List.set_cons_zero, List.set_cons_succ]
            refine wpAnyIn_ready (rs := [9]) (by kernel_rfl) (by simp) (AllReadyIn.cons rfl (fun K hK => ?b18) AllReadyIn.nil)
            case b18 =>
              go_simp
              refine ⟨trivial, fun h => (by cases h), (callsIn_wide.2 (HHID.out _)).mono ?_⟩
              rintro e Z ⟨rfl, hbZ⟩
              have hbZ2 : Below Y.heap.size Y Z := ((Below.refl Y.heap.size Y).drew).trans hbZ
              have cbz := (hbZ2.cell (p := ⟨W.heap.size, 0, none⟩) (World.block_lt_of_cell? _ _ cb)).trans cb
              clear hbZ
              refine hK _ _ ?_
              clear hK K
              try simp only [Act.put, List.setIfInBounds_toArray, List.set_cons_zero, List.set_cons_succ]
              refine takeR (i := 10) (d := some 30) (v := ?vT14) rfl rfl rfl (by kernel_rfl) (by kernel_rfl) (by kernel_rfl) (fun _ _ _ h => h) ⟨Or.inl ⟨by rfl, ?hyT14⟩, fun _ => rfl⟩ ?rsT14
              case hyT14 => (intro w; go_simp; (try with_reducible rfl))
              try simp only [Act.put, List.setIfInBounds_toArray, List.set_cons_zero, List.set_cons_succ]
              refine wpAnyIn_ready (rs := [11]) (by kernel_rfl) (by simp) (AllReadyIn.cons rfl (fun K hK => ?b17) AllReadyIn.nil)
              case b17 =>
                obtain ⟨fn, tmps, asg, body, hy, hR⟩ := HYZ.out Z hbZ2
                go_simp
                refine ⟨fun h => (by cases h), hR.mono ?_⟩
                rintro e W4 ⟨hkf, (⟨rfl, hJ4, hk4⟩ | ⟨rfl, hx4⟩)⟩
                · refine hK _ _ ?_
                  clear hK K
                  try simp only [Act.put, List.setIfInBounds_toArray, List.set_cons_zero, List.set_cons_succ]
                  refine takeR (i := 12) (d := some 32) (v := ?vT15) rfl rfl rfl (by kernel_rfl) (by kernel_rfl) (by kernel_rfl) (fun _ _ _ h => h) ⟨Or.inl ⟨by rfl, ?hyT15⟩, fun _ => rfl⟩ ?rsT15
                  case hyT15 => (intro w; go_simp; (try with_reducible rfl))
                  try simp only [Act.put, List.setIfInBounds_toArray, List.set_cons_zero, List.set_cons_succ]
                  refine wpAnyIn_done (by kernel_rfl) ?_ _
                  gi_wp2
                  exact ⟨⟨j + 1, by omega, by simp, by rw [HSU.out, ← List.append_assoc]; exact hJ4, (hKj.trans (KpA.below hbZ2)).trans hk4⟩, by simp [RowKit.intOf]; omega⟩
                · refine hK _ _ ?_
                  clear hK K
                  try simp only [Act.put, List.setIfInBounds_toArray, List.set_cons_zero, List.set_cons_succ]
                  refine takeR (i := 12) (d := some 32) (v := ?vT16) rfl rfl rfl (by kernel_rfl) (by kernel_rfl) (by kernel_rfl) (fun _ _ _ h => h) ⟨Or.inl ⟨by rfl, ?hyT16⟩, fun _ => rfl⟩ ?rsT16
                  case hyT16 => (intro w; go_simp; (try with_reducible rfl))
                  try simp only [Act.put, List.setIfInBounds_toArray, List.set_cons_zero, List.set_cons_succ]
                  refine wpAnyIn_done (by kernel_rfl) ?_ _
                  gi_wp2
                  exact ⟨keepsFrom_up ((hKj.trans (KpA.below hbZ2)).from_.trans hkf) (by omega), rfl, _, HPJ.out, hx4⟩
          case b25 =>
            go_simp
            refine ⟨trivial, fun h => (by cases h), (callsIn_wide.2 (HHID.out _)).mono ?_⟩
            rintro e Z ⟨rfl, hbZ⟩
            have hbZ2 : Below Y.heap.size Y Z := ((Below.refl Y.heap.size Y).drew).trans hbZ
            have cbz := (hbZ2.cell (p := ⟨W.heap.size, 0, none⟩) (World.block_lt_of_cell? _ _ cb)).trans cb
            clear hbZ
            refine hK _ _ ?_
            clear hK K
            try simp only [Act.put, List.setIfInBounds_toArray, List.set_cons_zero, List.set_cons_succ]
            refine takeR (i := 10) (d := some 30) (v := ?vT19) rfl rfl rfl (by kernel_rfl) (by kernel_rfl) (by kernel_rfl) (fun _ _ _ h => h) ⟨Or.inl ⟨by rfl, ?hyT19⟩, fun _ => rfl⟩ ?rsT19
            case hyT19 => (intro w; go_simp; (try with_reducible rfl))
            try simp only [Act.put, List.setIfInBounds_toArray, List.set_cons_zero, List.set_cons_succ]
            refine wpAnyIn_ready (rs := [0]) (by kernel_rfl) (by simp) (AllReadyIn.cons rfl (fun K hK => ?b23) AllReadyIn.nil)
            case b23 =>
              go_simp
              refine hK _ _ ?_
              clear hK K
              try simp only [Act.put, List.setIfInBounds_toArray, List.set_cons_zero, List.set_cons_succ]
              refine wpAnyIn_ready (rs := [11]) (by kernel_rfl) (by simp) (AllReadyIn.cons rfl (fun K hK => ?b22) AllReadyIn.nil)
              case b22 =>
                obtain ⟨fn, tmps, asg, body, hy, hR⟩ := HYZ.out Z hbZ2
                go_simp
                refine ⟨fun h => (by cases h), hR.mono ?_⟩
                rintro e W4 ⟨hkf, (⟨rfl, hJ4, hk4⟩ | ⟨rfl, hx4⟩)⟩
                · refine hK _ _ ?_
                  clear hK K
                  try simp only [Act.put, List.setIfInBounds_toArray, List.set_cons_zero, List.set_cons_succ]
                  refine takeR (i := 12) (d := some 32) (v := ?vT20) rfl rfl rfl (by kernel_rfl) (by kernel_rfl) (by kernel_rfl) (fun _ _ _ h => h) ⟨Or.inl ⟨by rfl, ?hyT20⟩, fun _ => rfl⟩ ?rsT20
                  case hyT20 => (intro w; go_simp; (try with_reducible rfl))
                  try simp only [Act.put, List.setIfInBounds_toArray, List.set_cons_zero, List.set_cons_succ]
                  refine wpAnyIn_done (by kernel_rfl) ?_ _
                  gi_wp2
                  exact ⟨⟨j + 1, by omega, by simp, by rw [HSU.out, ← List.append_assoc]; exact hJ4, (hKj.trans (KpA.below hbZ2)).trans hk4⟩, by simp [RowKit.intOf]; omega⟩
                · refine hK _ _ ?_
                  clear hK K
                  try simp only [Act.put, List.setIfInBounds_toArray, List.set_cons_zero, List.set_cons_succ]
                  refine takeR (i := 12) (d := some 32) (v := ?vT21) rfl rfl rfl (by kernel_rfl) (by kernel_rfl) (by kernel_rfl) (fun _ _ _ h => h) ⟨Or.inl ⟨by rfl, ?hyT21⟩, fun _ => rfl⟩ ?rsT21
                  case hyT21 => (intro w; go_simp; (try with_reducible rfl))
                  try simp only [Act.put, List.setIfInBounds_toArray, List.set_cons_zero, List.set_cons_succ]
                  refine wpAnyIn_done (by kernel_rfl) ?_ _
                  gi_wp2
                  exact ⟨keepsFrom_up ((hKj.trans (KpA.below hbZ2)).from_.trans hkf) (by omega), rfl, _, HPJ.out, hx4⟩
      · gi_wp2
        refine ⟨keepsFrom_up hKj.from_ (by omega), hKj.kpT, ?_, ?_⟩
        · rw [List.take_of_length_le (by omega)] at hJj
          simpa [clG, Pc.dat] using hJj
        · exact (hKj.all W.heap.size (Nat.le_refl _) (Array.getElem?_eq_some_iff.1 hbx).1).trans hbx
  case done =>
    rintro De ys Z hD hS ⟨hJz, _⟩ hKd
    gi_wp2
    refine ⟨by simp, .inl ⟨_, _, rfl, run_takeDeferred hKd, ?_⟩⟩
    refine ⟨_, results_none rfl _ _ _, ⟨_, rfl⟩, .inl ⟨_, rfl, ?_⟩⟩
    rw [hS] at hJz
    exact HJ.out.1 _ _ _ _ hJz (grownBy_putObj' Z De _) (fun r e => by cases e; exact ⟨by omega, _, hKd, rfl⟩)
  case stop =>
    rintro De c pre Z hD hSp ⟨rfl, p', hp', hJz⟩ hKd
    gi_wp2
    refine ⟨by simp, .inl ⟨_, _, rfl, run_takeDeferred hKd, ?_⟩⟩
    refine ⟨_, results_none rfl _ _ _, ⟨_, rfl⟩, .inr ⟨p', hp', ?_⟩⟩
    exact HJ.out.2 _ _ _ _ hJz (grownBy_putObj' Z De _) (fun r e => by cases e; exact ⟨by omega, _, hKd, rfl⟩)
end Go.Proofs.YtokclnjaglklhaaDoor
