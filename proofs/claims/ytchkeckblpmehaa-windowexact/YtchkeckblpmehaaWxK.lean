import Derived.Test.YtchkeckblpmehaaWxJ
/-! The sentences' take. -/
namespace Go.Proofs.Ytchkeckblpmehaa
open Go.RowKit Go.Lib
set_option maxRecDepth 100000
/-- While a list is written full. -/
structure TkI (w wr : World) (C : Nat) (lv : Value) (l : List Int) (mk : Int) (i : Nat) (wv : Value) : Prop where
  row : OwnF intV 1 3 wr C lv (List.replicate i mk ++ l.drop i)
  want : OwnF intV 1 3 wr w.heap.size wv (List.replicate i mk)
  chg : Chg (fun g => lv.ownBlock = some g) w wr
theorem rep_step {l : List Int} {i : Nat} (mk : Int) (hi : i < l.length) : (List.replicate i mk ++ l.drop i).set i mk = List.replicate (i + 1) mk ++ l.drop (i + 1) := by
  have h1 : (l.drop i).set 0 mk = mk :: l.drop (i + 1) := by rw [List.drop_eq_getElem_cons hi]; rfl
  rw [List.set_append_right _ _ (by simp), List.length_replicate, Nat.sub_self, h1, List.replicate_succ', List.append_assoc]
  rfl
theorem own_addr {w : World} {B n c : Nat} {a : Option Addr} {l : List Int} {T : TypeId} (h : OwnF intV 1 T w B (.slice a n c) l) (hn : 0 < n) : ∃ g, a = some ⟨g, 0, none⟩ := by
  rcases h.2 with ⟨e, _⟩ | ⟨g, cap, cur, e, _⟩
  · simp only [Value.slice.injEq] at e
    omega
  · simp only [Value.slice.injEq] at e
    exact ⟨g, e.1⟩
theorem takeA {P : Program} {md : Region.Mode} {ops : Array Oper} {Q : Exit → Act → World → Prop} {i : Nat} {oi : Oper} {d : Option Nat} {v : Value} {fuel : Nat} {listed : Array Bool} {a : Act} {w : World} (hi : ops[i]? = some oi) (hd : oi.dst = d)
    (hs : Region.noSelect ops = true) (hf : Region.free md ops listed i = true) (hr : (Region.ready md ops listed).contains i = true)
    (hQ : ∀ c a w, Q (.panic c) (a.put oi.dst v) w → Q (.panic c) a w) (hy : Yields P ops oi v a)
    (h : wpAny P md ops Q fuel (listed.setIfInBounds i true) (a.put d v) w) : wpAny P md ops Q (fuel + 1) listed a w := by
  subst hd
  exact wpAny_take hi hs hf hr hQ hy h
theorem consS {P : Program} {md : Region.Mode} {ops : Array Oper} {Q : Exit → Act → World → Prop} {fuel : Nat} {listed : Array Bool} {a : Act} {w : World} {i : Nat} {o : Oper} {rs : List Nat} (ho : ops[i]? = some o)
    (h : ∀ K' : Act → World → Prop, Shut (∀ a w, wpAny P md ops Q fuel (listed.setIfInBounds i true) a w → K' a w) → if Region.wanted o (yielded ops a.tmps) = true then Oper.wp P o a w K' Q else K' (a.put o.dst undef) w)
    (hs : AllReady P md ops Q fuel listed a w rs) : AllReady P md ops Q fuel listed a w (i :: rs) := AllReady.cons ho h hs
theorem wp_append_hr {P : Program} {w : World} {o : Oper} {a : Act} {K : Act → World → Prop} {Q : Exit → Act → World → Prop} (s x : Operand) (t : TypeId) (d : Option Nat) (hd : o.dst = d)
    (ho : o.op = .call { callee := .builtin .append, args := #[s, x], argTypes := #[t, t] }) (v u : Value) (hs : a.eval s = v) (hx : a.eval x = u) {v' : Value} {w' : World}
    (hr : (Builtin.append_ #[t, t] o.type #[v, u]).run P w = .ok v' w') (h : K (a.put d v') w') : Oper.wp P o a w K Q := by
  subst hd
  unfold Oper.wp execOp
  simp only [ho, resolve, invoke, builtin, Sem.run_bind, Sem.run_pure, Result.andThen_ok, List.map_toArray, List.map_cons, List.map_nil, hs, hx, hr]
  exact h
set_option maxHeartbeats 2000000 in
theorem take_ok {w : World} {B q : Nat} {va vb lv : Value} {ps : List Hp} {l : List Int} {C : Nat} (h : HdAt w B q va vb ps) (hl : OwnF intV 1 3 w C lv l) (hC : ∀ g, HB q va vb ps g → g < C) (hBC : B ≤ C) (hCw : C ≤ w.heap.size) (hn : ps.length ≤ 1073741824) (hln : l.length ≤ 1073741824) :
    Calls Try.prog 24 #[.pointer (some ⟨q, 0, none⟩), lv] w fun e w' => e = .returned (.tuple #[]) ∧ ∃ va' vb' ps', HdAt w' B q va' vb' ps' ∧ ps'.length = ps.length + 2 ∧ (∀ x ∈ ps', x ∈ ps ∨ x.l.length ≤ l.length + 2) ∧ (∀ g, HB q va' vb' ps' g → HB q va vb ps g ∨ C ≤ g) ∧ Chg (fun g => HB q va vb ps g ∨ C ≤ g) w w' := by
  obtain ⟨la, lc, rfl⟩ := hl.shape
  obtain ⟨a, c, rfl⟩ := h.got.shape
  obtain ⟨a', c', rfl⟩ := h.want.shape
  obtain ⟨c0, c1⟩ := box2 h.box
  obtain ⟨n, hnn⟩ : ∃ n, ps.length = n := ⟨_, rfl⟩
  obtain ⟨ln, hll⟩ : ∃ ln, l.length = ln := ⟨_, rfl⟩
  obtain ⟨mk, hmk⟩ : ∃ mk : Int, -1 - (n : Int) = mk := ⟨_, rfl⟩
  have g1 : IntKind.i64.wrap (-1 - (n : Int)) = mk := by rw [hmk]; exact IntWalk.i64_in _ (by omega)
  have HH : Hid (HdAt w B q (.slice a n c) (.slice a' n c') ps ∧ OwnF intV 1 3 w C (.slice la ln lc) l ∧ (∀ g, HB q (.slice a n c) (.slice a' n c') ps g → g < C) ∧ B ≤ C ∧ ps.length = n ∧ l.length = ln ∧ n ≤ 1073741824 ∧ ln ≤ 1073741824 ∧ w.heap[q]? = some (.cells #[.slice a n c, .slice a' n c'] 28)) := by
    rw [hnn] at h hC
    rw [hll] at hl
    exact ⟨h, hl, hC, hBC, hnn, hll, by omega, by omega, h.box⟩
  rw [hnn] at c0 c1 ⊢
  rw [hll] at hln ⊢
  have hlc : (ln : Int) ≤ 1073741824 := by omega
  have HCW : Hid (C ≤ w.heap.size) := hCw
  clear h hl hC hBC hCw hnn hll hmk hn hln
  go_enter Try.func24, Try.ntmps24
  go_wp2_with fail
  go_loopw [5, 6] (fun v4 vi wr => ∃ (i : Nat) (a4 : Option Addr) (c4 : Nat), i ≤ ln ∧ vi = .int .i64 (i : Int) ∧ v4 = .slice a4 i c4 ∧ Hid (TkI w wr C (.slice la ln lc) l mk i (.slice a4 i c4))) (fun _ vi _ => ln - (RowKit.intOf vi).toNat)
  case atStart => exact ⟨0, none, 0, Nat.zero_le _, rfl, rfl, ⟨by simpa using HH.out.2.1, by simpa using ownF_nil _ _, Chg.refl _ _⟩⟩
  case round =>
    obtain ⟨i, a4, c4, hi, rfl, rfl, hS⟩ := hrel
    by_cases hlt : i < ln
    · have hlt2 : (i : Int) < (ln : Int) := by omega
      have gi : IntKind.i64.wrap ((i : Int) + 1) = ((i + 1 : Nat) : Int) := by rw [IntWalk.i64_in _ (by omega)]; omega
      obtain ⟨gl, rfl⟩ := own_addr HH.out.2.1 (by omega)
      have hglt := HH.out.2.1.lt (g := gl) rfl
      obtain ⟨hrw, fz⟩ := own_setI hS.out.row i hlt mk
      rw [rep_step mk (by rw [HH.out.2.2.2.2.2.1]; exact hlt)] at hrw
      have hcl : ∃ u, wr.cell? ⟨gl, i, none⟩ = some u := by
        obtain ⟨g', off', o, e, _, _, hc⟩ := (hS.out.row.rw_ layI).at i hlt
        simp only [Option.some.injEq, Addr.mk.injEq, and_true] at e
        obtain ⟨rfl, rfl⟩ := e
        exact ⟨_, by have := hc 0 _ rfl; simpa using this⟩
      obtain ⟨ou, hcl⟩ := hcl
      obtain ⟨W1, hW1⟩ : ∃ W1, wr.setCell ⟨gl, i, none⟩ (.int .i64 mk) = W1 := ⟨_, rfl⟩
      have hC1 : Chg (fun g => g = gl) wr W1 := by rw [← hW1]; exact Chg.set (D := fun g => g = gl) (q := gl) i _ _ rfl
      rw [hW1] at hrw
      have hwt : OwnF intV 1 3 W1 w.heap.size (.slice a4 i c4) (List.replicate i mk) := hS.out.want.chgX hC1 (fun g hg e => by have := hS.out.want.ge hg; omega)
      have hsz : w.heap.size ≤ W1.heap.size := Nat.le_trans hS.out.chg.size hC1.size
      have hlr : (List.replicate i mk).length = i := List.length_replicate
      obtain ⟨g8, cap8, w8, hr8, ho8, hb8, hk8, hs8, hat8⟩ := appendF_one kindNm layI hwt hsz mk #[.int .i64 mk] rfl 3 (by rw [hlr]; omega) (by rw [hlr]; omega) 56
      rw [hlr] at hr8 ho8
      have HS : Hid (TkI w w8 C (.slice (some ⟨gl, 0, none⟩) ln lc) l mk (i + 1) (.slice (some ⟨g8, 0, none⟩) (i + 1) cap8)) := by
        have hC8 := chg_keeps hb8 hk8
        refine ⟨hrw.chgX hC8 (fun g hg e => ?_), by rw [List.replicate_succ']; exact ho8, (hS.out.chg.then hC1 (fun g hg => .inl (by rw [hg]; rfl))).then hC8 (fun g hg => .inr (hwt.ge hg))⟩
        have h1 := hwt.ge e
        simp [Value.ownBlock] at hg
        omega
      clear hrw hC1 hwt hsz hlr ho8 hb8 hk8 hs8 hat8 hglt
      go_wp2_with (at_builtin; refine wpList_append_hr rfl _ _ 56 rfl _ _ rfl rfl hr8 ?_)
      go_roundw
      case rel => exact ⟨i + 1, _, _, by omega, by first | rfl | go_num, rfl, HS.out⟩
      case measure => simp [RowKit.intOf]; omega
    · obtain rfl : i = ln := by omega
      have hlt2 : ¬ ((i : Int) < (i : Int)) := by omega
      have hbq : wr.heap[q]? = some (.cells #[.slice a n c, .slice a' n c'] 28) := hS.out.chg.block HH.out.2.2.2.2.2.2.2.2 (fun e => by have h1 := HH.out.2.1.ge e; have h2 := HH.out.2.2.1 q (.inl rfl); omega)
      have hXC : Chg (fun g => (Value.slice la i lc).ownBlock = some g) w wr.drew := hS.out.chg.drew
      obtain ⟨X, hX⟩ : ∃ X, wr.drew = X := ⟨_, rfl⟩
      have hm : List.replicate i mk ++ l.drop i = List.replicate i mk := by rw [List.drop_of_length_le (by have := HH.out.2.2.2.2.2.1; omega), List.append_nil]
      have hr0 := hS.out.row
      rw [hm] at hr0
      have hr : OwnF intV 1 3 wr.drew C (.slice la i lc) (List.replicate i mk) := hr0.chgX (D := fun _ => False) (Chg.refl _ wr).drew (fun _ _ f => f)
      have hw : OwnF intV 1 3 wr.drew w.heap.size (.slice a4 i c4) (List.replicate i mk) := hS.out.want.chgX (D := fun _ => False) (Chg.refl _ wr).drew (fun _ _ f => f)
      have hh : HdAt wr.drew B q (.slice a n c) (.slice a' n c') ps := HH.out.1.chg hXC (fun g hg e => by have h1 := HH.out.2.1.ge e; have h2 := HH.out.2.2.1 g hg; omega)
      rw [hX] at hXC hr hw hh
      obtain ⟨g1, c1, Z2, g2, c2, Z4, Z5, k1, d1, Y2, k2, d2, Y4, Y5, hr1, hr2, e1, e2, e3, e4, f4, hZ5, e5, hs1, hs2, o1, o2, o3, o4, f5, hY5, va', vb', ps', q1, q2, q3, q4, q5⟩ := take_mem (mk := mk) hh hr hw HH.out.2.2.1 HH.out.2.2.2.1 HCW.out (by have := hXC.size; omega) (fun g hg => HH.out.2.1.lt hg) HH.out.2.2.2.2.1 (by simp) HH.out.2.2.2.2.2.2.1 HH.out.2.2.2.2.2.2.2.1
      obtain ⟨Yd, hYd⟩ : ∃ Yd, Z5.drew = Yd := ⟨_, rfl⟩
      rw [hYd] at e5 hs1 o1
      have e0 : X.cell? ⟨q, 0, none⟩ = some (.slice a n c) := (box2 hh.box).1
      have HE : Hid (∃ va' vb' ps', HdAt Y5 B q va' vb' ps' ∧ ps'.length = n + 2 ∧ (∀ x ∈ ps', x ∈ ps ∨ x.l.length ≤ i + 2) ∧ (∀ g, HB q va' vb' ps' g → HB q (.slice a n c) (.slice a' n c') ps g ∨ C ≤ g) ∧ Chg (fun g => HB q (.slice a n c) (.slice a' n c') ps g ∨ C ≤ g) w Y5) :=
        ⟨va', vb', ps', q1, by rw [q2, HH.out.2.2.2.2.1], fun x hx => by simpa using q3 x hx, q4, (hXC.mono fun g _ hg => .inr (HH.out.2.1.ge hg)).trans q5⟩
      clear q1 q2 q3 q4 q5 hh hr hw hr0 hm hXC hbq
      go_wp2_with fail
      refine wp_region_any (by kernel_rfl) ?_
      show wpAny _ _ _ _ _ _ _ wr.drew
      rw [hX]
      refine takeA (i := 0) (d := some 27) (v := ?vT1) rfl rfl (by kernel_rfl) (by kernel_rfl) (by kernel_rfl) (fun _ _ _ h => h) (Or.inl ⟨by rfl, ?hyT1⟩) ?rstT1
      case hyT1 => (intro w; go_simp; (try with_reducible rfl))
      try simp only [Act.put, List.setIfInBounds_toArray, List.set_cons_zero, List.set_cons_succ]
      refine takeA (i := 1) (d := some 28) (v := ?vT2) rfl rfl (by kernel_rfl) (by kernel_rfl) (by kernel_rfl) (fun _ _ _ h => h) (Or.inl ⟨by rfl, ?hyT2⟩) ?rstT2
      case hyT2 => (intro w; go_simp; (try with_reducible rfl))
      try simp only [Act.put, List.setIfInBounds_toArray, List.set_cons_zero, List.set_cons_succ]
      refine takeA (i := 2) (d := some 29) (v := ?vT3) rfl rfl (by kernel_rfl) (by kernel_rfl) (by kernel_rfl) (fun _ _ _ h => h) (Or.inl ⟨by rfl, ?hyT3⟩) ?rstT3
      case hyT3 => (intro w; go_simp; (try with_reducible rfl))
      try simp only [Act.put, List.setIfInBounds_toArray, List.set_cons_zero, List.set_cons_succ]
      refine takeA (i := 3) (d := some 30) (v := ?vT4) rfl rfl (by kernel_rfl) (by kernel_rfl) (by kernel_rfl) (fun _ _ _ h => h) (Or.inl ⟨by rfl, ?hyT4⟩) ?rstT4
      case hyT4 => (intro w; go_simp; (try with_reducible rfl))
      try simp only [Act.put, List.setIfInBounds_toArray, List.set_cons_zero, List.set_cons_succ]
      refine takeA (i := 5) (d := some 32) (v := ?vT5) rfl rfl (by kernel_rfl) (by kernel_rfl) (by kernel_rfl) (fun _ _ _ h => h) (Or.inl ⟨by rfl, ?hyT5⟩) ?rstT5
      case hyT5 => (intro w; go_simp; (try with_reducible rfl))
      try simp only [Act.put, List.setIfInBounds_toArray, List.set_cons_zero, List.set_cons_succ]
      refine takeA (i := 6) (d := some 33) (v := ?vT6) rfl rfl (by kernel_rfl) (by kernel_rfl) (by kernel_rfl) (fun _ _ _ h => h) (Or.inl ⟨by rfl, ?hyT6⟩) ?rstT6
      case hyT6 => (intro w; go_simp; (try with_reducible rfl))
      try simp only [Act.put, List.setIfInBounds_toArray, List.set_cons_zero, List.set_cons_succ]
      refine takeA (i := 7) (d := some 34) (v := ?vT7) rfl rfl (by kernel_rfl) (by kernel_rfl) (by kernel_rfl) (fun _ _ _ h => h) (Or.inl ⟨by rfl, ?hyT7⟩) ?rstT7
      case hyT7 => (intro w; go_simp; (try with_reducible rfl))
      try simp only [Act.put, List.setIfInBounds_toArray, List.set_cons_zero, List.set_cons_succ]
      refine takeA (i := 8) (d := some 35) (v := ?vT8) rfl rfl (by kernel_rfl) (by kernel_rfl) (by kernel_rfl) (fun _ _ _ h => h) (Or.inl ⟨by rfl, ?hyT8⟩) ?rstT8
      case hyT8 => (intro w; go_simp; (try with_reducible rfl))
      try simp only [Act.put, List.setIfInBounds_toArray, List.set_cons_zero, List.set_cons_succ]
      refine wpAny_ready (rs := [4, 9]) (by kernel_rfl) (by simp) (consS rfl (fun K hK => ?b184) (consS rfl (fun K hK => ?b185) AllReady.nil))
      case b184 =>
        go_simp
        refine hK.out _ _ ?_
        clear hK K
        try simp only [Act.put, List.setIfInBounds_toArray, List.set_cons_zero, List.set_cons_succ]
        refine wpAny_ready (rs := [9]) (by kernel_rfl) (by simp) (consS rfl (fun K hK => ?b52) AllReady.nil)
        case b52 =>
          go_simp
          refine hK.out _ _ ?_
          clear hK K
          try simp only [Act.put, List.setIfInBounds_toArray, List.set_cons_zero, List.set_cons_succ]
          refine wpAny_ready (rs := [10]) (by kernel_rfl) (by simp) (consS rfl (fun K hK => ?b51) AllReady.nil)
          case b51 =>
            rw [if_pos (by rfl)]
            refine wp_append_hr (.tmp 33) (.tmp 36) 56 (some 37) rfl rfl _ _ rfl rfl hr1 ?_
            refine hK.out _ _ ?_
            clear hK K
            try simp only [Act.put, List.setIfInBounds_toArray, List.set_cons_zero, List.set_cons_succ]
            refine wpAny_ready (rs := [11]) (by kernel_rfl) (by simp) (consS rfl (fun K hK => ?b50) AllReady.nil)
            case b50 =>
              go_simp
              refine hK.out _ _ ?_
              clear hK K
              try simp only [Act.put, List.setIfInBounds_toArray, List.set_cons_zero, List.set_cons_succ]
              refine wpAny_ready (rs := [12]) (by kernel_rfl) (by simp) (consS rfl (fun K hK => ?b49) AllReady.nil)
              case b49 =>
                rw [if_pos (by rfl)]
                refine wp_append_hr (.tmp 31) (.tmp 38) 26 (some 39) rfl rfl _ _ rfl rfl hr2 ?_
                refine hK.out _ _ ?_
                clear hK K
                try simp only [Act.put, List.setIfInBounds_toArray, List.set_cons_zero, List.set_cons_succ]
                refine takeA (i := 13) (d := some 40) (v := ?vT9) rfl rfl (by kernel_rfl) (by kernel_rfl) (by kernel_rfl) (fun _ _ _ h => h) (Or.inl ⟨by rfl, ?hyT9⟩) ?rstT9
                case hyT9 => (intro w; go_simp; (try with_reducible rfl))
                try simp only [Act.put, List.setIfInBounds_toArray, List.set_cons_zero, List.set_cons_succ]
                refine takeA (i := 14) (d := some 41) (v := ?vT10) rfl rfl (by kernel_rfl) (by kernel_rfl) (by kernel_rfl) (fun _ _ _ h => h) (Or.inl ⟨by rfl, ?hyT10⟩) ?rstT10
                case hyT10 => (intro w; go_simp; (try with_reducible rfl))
                try simp only [Act.put, List.setIfInBounds_toArray, List.set_cons_zero, List.set_cons_succ]
                refine wpAny_ready (rs := [15]) (by kernel_rfl) (by simp) (consS rfl (fun K hK => ?b48) AllReady.nil)
                case b48 =>
                  go_simp
                  refine hK.out _ _ ?_
                  clear hK K
                  try simp only [Act.put, List.setIfInBounds_toArray, List.set_cons_zero, List.set_cons_succ]
                  refine wpAny_done (by kernel_rfl) ?_ _
                  go_wp2_with fail
                  clear e0 e1 e2 e3 e4 f4 hr1 hr2
                  refine wp_region_any (by kernel_rfl) ?_
                  show wpAny _ _ _ _ _ _ _ Z5.drew
                  rw [hYd]
                  refine takeA (i := 0) (d := some 42) (v := ?vT11) rfl rfl (by kernel_rfl) (by kernel_rfl) (by kernel_rfl) (fun _ _ _ h => h) (Or.inl ⟨by rfl, ?hyT11⟩) ?rstT11
                  case hyT11 => (intro w; go_simp; (try with_reducible rfl))
                  try simp only [Act.put, List.setIfInBounds_toArray, List.set_cons_zero, List.set_cons_succ]
                  refine takeA (i := 1) (d := some 43) (v := ?vT12) rfl rfl (by kernel_rfl) (by kernel_rfl) (by kernel_rfl) (fun _ _ _ h => h) (Or.inl ⟨by rfl, ?hyT12⟩) ?rstT12
                  case hyT12 => (intro w; go_simp; (try with_reducible rfl))
                  try simp only [Act.put, List.setIfInBounds_toArray, List.set_cons_zero, List.set_cons_succ]
                  refine takeA (i := 2) (d := some 44) (v := ?vT13) rfl rfl (by kernel_rfl) (by kernel_rfl) (by kernel_rfl) (fun _ _ _ h => h) (Or.inl ⟨by rfl, ?hyT13⟩) ?rstT13
                  case hyT13 => (intro w; go_simp; (try with_reducible rfl))
                  try simp only [Act.put, List.setIfInBounds_toArray, List.set_cons_zero, List.set_cons_succ]
                  refine takeA (i := 3) (d := some 45) (v := ?vT14) rfl rfl (by kernel_rfl) (by kernel_rfl) (by kernel_rfl) (fun _ _ _ h => h) (Or.inl ⟨by rfl, ?hyT14⟩) ?rstT14
                  case hyT14 => (intro w; go_simp; (try with_reducible rfl))
                  try simp only [Act.put, List.setIfInBounds_toArray, List.set_cons_zero, List.set_cons_succ]
                  refine takeA (i := 5) (d := some 47) (v := ?vT15) rfl rfl (by kernel_rfl) (by kernel_rfl) (by kernel_rfl) (fun _ _ _ h => h) (Or.inl ⟨by rfl, ?hyT15⟩) ?rstT15
                  case hyT15 => (intro w; go_simp; (try with_reducible rfl))
                  try simp only [Act.put, List.setIfInBounds_toArray, List.set_cons_zero, List.set_cons_succ]
                  refine takeA (i := 6) (d := some 48) (v := ?vT16) rfl rfl (by kernel_rfl) (by kernel_rfl) (by kernel_rfl) (fun _ _ _ h => h) (Or.inl ⟨by rfl, ?hyT16⟩) ?rstT16
                  case hyT16 => (intro w; go_simp; (try with_reducible rfl))
                  try simp only [Act.put, List.setIfInBounds_toArray, List.set_cons_zero, List.set_cons_succ]
                  refine takeA (i := 7) (d := some 49) (v := ?vT17) rfl rfl (by kernel_rfl) (by kernel_rfl) (by kernel_rfl) (fun _ _ _ h => h) (Or.inl ⟨by rfl, ?hyT17⟩) ?rstT17
                  case hyT17 => (intro w; go_simp; (try with_reducible rfl))
                  try simp only [Act.put, List.setIfInBounds_toArray, List.set_cons_zero, List.set_cons_succ]
                  refine takeA (i := 8) (d := some 50) (v := ?vT18) rfl rfl (by kernel_rfl) (by kernel_rfl) (by kernel_rfl) (fun _ _ _ h => h) (Or.inl ⟨by rfl, ?hyT18⟩) ?rstT18
                  case hyT18 => (intro w; go_simp; (try with_reducible rfl))
                  try simp only [Act.put, List.setIfInBounds_toArray, List.set_cons_zero, List.set_cons_succ]
                  refine wpAny_ready (rs := [4, 9]) (by kernel_rfl) (by simp) (consS rfl (fun K hK => ?b46) (consS rfl (fun K hK => ?b47) AllReady.nil))
                  case b46 =>
                    go_simp
                    refine hK.out _ _ ?_
                    clear hK K
                    try simp only [Act.put, List.setIfInBounds_toArray, List.set_cons_zero, List.set_cons_succ]
                    refine wpAny_ready (rs := [9]) (by kernel_rfl) (by simp) (consS rfl (fun K hK => ?b25) AllReady.nil)
                    case b25 =>
                      go_simp
                      refine hK.out _ _ ?_
                      clear hK K
                      try simp only [Act.put, List.setIfInBounds_toArray, List.set_cons_zero, List.set_cons_succ]
                      refine wpAny_ready (rs := [10]) (by kernel_rfl) (by simp) (consS rfl (fun K hK => ?b24) AllReady.nil)
                      case b24 =>
                        rw [if_pos (by rfl)]
                        refine wp_append_hr (.tmp 48) (.tmp 51) 56 (some 52) rfl rfl _ _ rfl rfl hs1 ?_
                        refine hK.out _ _ ?_
                        clear hK K
                        try simp only [Act.put, List.setIfInBounds_toArray, List.set_cons_zero, List.set_cons_succ]
                        refine wpAny_ready (rs := [11]) (by kernel_rfl) (by simp) (consS rfl (fun K hK => ?b23) AllReady.nil)
                        case b23 =>
                          go_simp
                          refine hK.out _ _ ?_
                          clear hK K
                          try simp only [Act.put, List.setIfInBounds_toArray, List.set_cons_zero, List.set_cons_succ]
                          refine wpAny_ready (rs := [12]) (by kernel_rfl) (by simp) (consS rfl (fun K hK => ?b22) AllReady.nil)
                          case b22 =>
                            rw [if_pos (by rfl)]
                            refine wp_append_hr (.tmp 46) (.tmp 53) 26 (some 54) rfl rfl _ _ rfl rfl hs2 ?_
                            refine hK.out _ _ ?_
                            clear hK K
                            try simp only [Act.put, List.setIfInBounds_toArray, List.set_cons_zero, List.set_cons_succ]
                            refine takeA (i := 13) (d := some 55) (v := ?vT19) rfl rfl (by kernel_rfl) (by kernel_rfl) (by kernel_rfl) (fun _ _ _ h => h) (Or.inl ⟨by rfl, ?hyT19⟩) ?rstT19
                            case hyT19 => (intro w; go_simp; (try with_reducible rfl))
                            try simp only [Act.put, List.setIfInBounds_toArray, List.set_cons_zero, List.set_cons_succ]
                            refine takeA (i := 14) (d := some 56) (v := ?vT20) rfl rfl (by kernel_rfl) (by kernel_rfl) (by kernel_rfl) (fun _ _ _ h => h) (Or.inl ⟨by rfl, ?hyT20⟩) ?rstT20
                            case hyT20 => (intro w; go_simp; (try with_reducible rfl))
                            try simp only [Act.put, List.setIfInBounds_toArray, List.set_cons_zero, List.set_cons_succ]
                            refine wpAny_ready (rs := [15]) (by kernel_rfl) (by simp) (consS rfl (fun K hK => ?b21) AllReady.nil)
                            case b21 =>
                              go_simp
                              refine hK.out _ _ ?_
                              clear hK K
                              try simp only [Act.put, List.setIfInBounds_toArray, List.set_cons_zero, List.set_cons_succ]
                              refine wpAny_done (by kernel_rfl) ?_ _
                              go_wp2_with fail
                              go_end0
                              exact ⟨rfl, HE.out⟩
                  case b47 =>
                    go_simp
                    refine hK.out _ _ ?_
                    clear hK K
                    try simp only [Act.put, List.setIfInBounds_toArray, List.set_cons_zero, List.set_cons_succ]
                    refine wpAny_ready (rs := [4, 10]) (by kernel_rfl) (by simp) (consS rfl (fun K hK => ?b44) (consS rfl (fun K hK => ?b45) AllReady.nil))
                    case b44 =>
                      go_simp
                      refine hK.out _ _ ?_
                      clear hK K
                      try simp only [Act.put, List.setIfInBounds_toArray, List.set_cons_zero, List.set_cons_succ]
                      refine wpAny_ready (rs := [10]) (by kernel_rfl) (by simp) (consS rfl (fun K hK => ?b31) AllReady.nil)
                      case b31 =>
                        rw [if_pos (by rfl)]
                        refine wp_append_hr (.tmp 48) (.tmp 51) 56 (some 52) rfl rfl _ _ rfl rfl hs1 ?_
                        refine hK.out _ _ ?_
                        clear hK K
                        try simp only [Act.put, List.setIfInBounds_toArray, List.set_cons_zero, List.set_cons_succ]
                        refine wpAny_ready (rs := [11]) (by kernel_rfl) (by simp) (consS rfl (fun K hK => ?b30) AllReady.nil)
                        case b30 =>
                          go_simp
                          refine hK.out _ _ ?_
                          clear hK K
                          try simp only [Act.put, List.setIfInBounds_toArray, List.set_cons_zero, List.set_cons_succ]
                          refine wpAny_ready (rs := [12]) (by kernel_rfl) (by simp) (consS rfl (fun K hK => ?b29) AllReady.nil)
                          case b29 =>
                            rw [if_pos (by rfl)]
                            refine wp_append_hr (.tmp 46) (.tmp 53) 26 (some 54) rfl rfl _ _ rfl rfl hs2 ?_
                            refine hK.out _ _ ?_
                            clear hK K
                            try simp only [Act.put, List.setIfInBounds_toArray, List.set_cons_zero, List.set_cons_succ]
                            refine takeA (i := 13) (d := some 55) (v := ?vT26) rfl rfl (by kernel_rfl) (by kernel_rfl) (by kernel_rfl) (fun _ _ _ h => h) (Or.inl ⟨by rfl, ?hyT26⟩) ?rstT26
                            case hyT26 => (intro w; go_simp; (try with_reducible rfl))
                            try simp only [Act.put, List.setIfInBounds_toArray, List.set_cons_zero, List.set_cons_succ]
                            refine takeA (i := 14) (d := some 56) (v := ?vT27) rfl rfl (by kernel_rfl) (by kernel_rfl) (by kernel_rfl) (fun _ _ _ h => h) (Or.inl ⟨by rfl, ?hyT27⟩) ?rstT27
                            case hyT27 => (intro w; go_simp; (try with_reducible rfl))
                            try simp only [Act.put, List.setIfInBounds_toArray, List.set_cons_zero, List.set_cons_succ]
                            refine wpAny_ready (rs := [15]) (by kernel_rfl) (by simp) (consS rfl (fun K hK => ?b28) AllReady.nil)
                            case b28 =>
                              go_simp
                              refine hK.out _ _ ?_
                              clear hK K
                              try simp only [Act.put, List.setIfInBounds_toArray, List.set_cons_zero, List.set_cons_succ]
                              refine wpAny_done (by kernel_rfl) ?_ _
                              go_wp2_with fail
                              go_end0
                              exact ⟨rfl, HE.out⟩
                    case b45 =>
                      rw [if_pos (by rfl)]
                      refine wp_append_hr (.tmp 48) (.tmp 51) 56 (some 52) rfl rfl _ _ rfl rfl hs1 ?_
                      refine hK.out _ _ ?_
                      clear hK K
                      try simp only [Act.put, List.setIfInBounds_toArray, List.set_cons_zero, List.set_cons_succ]
                      refine wpAny_ready (rs := [4, 11]) (by kernel_rfl) (by simp) (consS rfl (fun K hK => ?b42) (consS rfl (fun K hK => ?b43) AllReady.nil))
                      case b42 =>
                        go_simp
                        refine hK.out _ _ ?_
                        clear hK K
                        try simp only [Act.put, List.setIfInBounds_toArray, List.set_cons_zero, List.set_cons_succ]
                        refine wpAny_ready (rs := [11]) (by kernel_rfl) (by simp) (consS rfl (fun K hK => ?b36) AllReady.nil)
                        case b36 =>
                          go_simp
                          refine hK.out _ _ ?_
                          clear hK K
                          try simp only [Act.put, List.setIfInBounds_toArray, List.set_cons_zero, List.set_cons_succ]
                          refine wpAny_ready (rs := [12]) (by kernel_rfl) (by simp) (consS rfl (fun K hK => ?b35) AllReady.nil)
                          case b35 =>
                            rw [if_pos (by rfl)]
                            refine wp_append_hr (.tmp 46) (.tmp 53) 26 (some 54) rfl rfl _ _ rfl rfl hs2 ?_
                            refine hK.out _ _ ?_
                            clear hK K
                            try simp only [Act.put, List.setIfInBounds_toArray, List.set_cons_zero, List.set_cons_succ]
                            refine takeA (i := 13) (d := some 55) (v := ?vT32) rfl rfl (by kernel_rfl) (by kernel_rfl) (by kernel_rfl) (fun _ _ _ h => h) (Or.inl ⟨by rfl, ?hyT32⟩) ?rstT32
                            case hyT32 => (intro w; go_simp; (try with_reducible rfl))
                            try simp only [Act.put, List.setIfInBounds_toArray, List.set_cons_zero, List.set_cons_succ]
                            refine takeA (i := 14) (d := some 56) (v := ?vT33) rfl rfl (by kernel_rfl) (by kernel_rfl) (by kernel_rfl) (fun _ _ _ h => h) (Or.inl ⟨by rfl, ?hyT33⟩) ?rstT33
                            case hyT33 => (intro w; go_simp; (try with_reducible rfl))
                            try simp only [Act.put, List.setIfInBounds_toArray, List.set_cons_zero, List.set_cons_succ]
                            refine wpAny_ready (rs := [15]) (by kernel_rfl) (by simp) (consS rfl (fun K hK => ?b34) AllReady.nil)
                            case b34 =>
                              go_simp
                              refine hK.out _ _ ?_
                              clear hK K
                              try simp only [Act.put, List.setIfInBounds_toArray, List.set_cons_zero, List.set_cons_succ]
                              refine wpAny_done (by kernel_rfl) ?_ _
                              go_wp2_with fail
                              go_end0
                              exact ⟨rfl, HE.out⟩
                      case b43 =>
                        go_simp
                        refine hK.out _ _ ?_
                        clear hK K
                        try simp only [Act.put, List.setIfInBounds_toArray, List.set_cons_zero, List.set_cons_succ]
                        refine wpAny_ready (rs := [4]) (by kernel_rfl) (by simp) (consS rfl (fun K hK => ?b41) AllReady.nil)
                        case b41 =>
                          go_simp
                          refine hK.out _ _ ?_
                          clear hK K
                          try simp only [Act.put, List.setIfInBounds_toArray, List.set_cons_zero, List.set_cons_succ]
                          refine wpAny_ready (rs := [12]) (by kernel_rfl) (by simp) (consS rfl (fun K hK => ?b40) AllReady.nil)
                          case b40 =>
                            rw [if_pos (by rfl)]
                            refine wp_append_hr (.tmp 46) (.tmp 53) 26 (some 54) rfl rfl _ _ rfl rfl hs2 ?_
                            refine hK.out _ _ ?_
                            clear hK K
                            try simp only [Act.put, List.setIfInBounds_toArray, List.set_cons_zero, List.set_cons_succ]
                            refine takeA (i := 13) (d := some 55) (v := ?vT37) rfl rfl (by kernel_rfl) (by kernel_rfl) (by kernel_rfl) (fun _ _ _ h => h) (Or.inl ⟨by rfl, ?hyT37⟩) ?rstT37
                            case hyT37 => (intro w; go_simp; (try with_reducible rfl))
                            try simp only [Act.put, List.setIfInBounds_toArray, List.set_cons_zero, List.set_cons_succ]
                            refine takeA (i := 14) (d := some 56) (v := ?vT38) rfl rfl (by kernel_rfl) (by kernel_rfl) (by kernel_rfl) (fun _ _ _ h => h) (Or.inl ⟨by rfl, ?hyT38⟩) ?rstT38
                            case hyT38 => (intro w; go_simp; (try with_reducible rfl))
                            try simp only [Act.put, List.setIfInBounds_toArray, List.set_cons_zero, List.set_cons_succ]
                            refine wpAny_ready (rs := [15]) (by kernel_rfl) (by simp) (consS rfl (fun K hK => ?b39) AllReady.nil)
                            case b39 =>
                              go_simp
                              refine hK.out _ _ ?_
                              clear hK K
                              try simp only [Act.put, List.setIfInBounds_toArray, List.set_cons_zero, List.set_cons_succ]
                              refine wpAny_done (by kernel_rfl) ?_ _
                              go_wp2_with fail
                              go_end0
                              exact ⟨rfl, HE.out⟩
      case b185 =>
        go_simp
        refine hK.out _ _ ?_
        clear hK K
        try simp only [Act.put, List.setIfInBounds_toArray, List.set_cons_zero, List.set_cons_succ]
        refine wpAny_ready (rs := [4, 10]) (by kernel_rfl) (by simp) (consS rfl (fun K hK => ?b182) (consS rfl (fun K hK => ?b183) AllReady.nil))
        case b182 =>
          go_simp
          refine hK.out _ _ ?_
          clear hK K
          try simp only [Act.put, List.setIfInBounds_toArray, List.set_cons_zero, List.set_cons_succ]
          refine wpAny_ready (rs := [10]) (by kernel_rfl) (by simp) (consS rfl (fun K hK => ?b95) AllReady.nil)
          case b95 =>
            rw [if_pos (by rfl)]
            refine wp_append_hr (.tmp 33) (.tmp 36) 56 (some 37) rfl rfl _ _ rfl rfl hr1 ?_
            refine hK.out _ _ ?_
            clear hK K
            try simp only [Act.put, List.setIfInBounds_toArray, List.set_cons_zero, List.set_cons_succ]
            refine wpAny_ready (rs := [11]) (by kernel_rfl) (by simp) (consS rfl (fun K hK => ?b94) AllReady.nil)
            case b94 =>
              go_simp
              refine hK.out _ _ ?_
              clear hK K
              try simp only [Act.put, List.setIfInBounds_toArray, List.set_cons_zero, List.set_cons_succ]
              refine wpAny_ready (rs := [12]) (by kernel_rfl) (by simp) (consS rfl (fun K hK => ?b93) AllReady.nil)
              case b93 =>
                rw [if_pos (by rfl)]
                refine wp_append_hr (.tmp 31) (.tmp 38) 26 (some 39) rfl rfl _ _ rfl rfl hr2 ?_
                refine hK.out _ _ ?_
                clear hK K
                try simp only [Act.put, List.setIfInBounds_toArray, List.set_cons_zero, List.set_cons_succ]
                refine takeA (i := 13) (d := some 40) (v := ?vT53) rfl rfl (by kernel_rfl) (by kernel_rfl) (by kernel_rfl) (fun _ _ _ h => h) (Or.inl ⟨by rfl, ?hyT53⟩) ?rstT53
                case hyT53 => (intro w; go_simp; (try with_reducible rfl))
                try simp only [Act.put, List.setIfInBounds_toArray, List.set_cons_zero, List.set_cons_succ]
                refine takeA (i := 14) (d := some 41) (v := ?vT54) rfl rfl (by kernel_rfl) (by kernel_rfl) (by kernel_rfl) (fun _ _ _ h => h) (Or.inl ⟨by rfl, ?hyT54⟩) ?rstT54
                case hyT54 => (intro w; go_simp; (try with_reducible rfl))
                try simp only [Act.put, List.setIfInBounds_toArray, List.set_cons_zero, List.set_cons_succ]
                refine wpAny_ready (rs := [15]) (by kernel_rfl) (by simp) (consS rfl (fun K hK => ?b92) AllReady.nil)
                case b92 =>
                  go_simp
                  refine hK.out _ _ ?_
                  clear hK K
                  try simp only [Act.put, List.setIfInBounds_toArray, List.set_cons_zero, List.set_cons_succ]
                  refine wpAny_done (by kernel_rfl) ?_ _
                  go_wp2_with fail
                  clear e0 e1 e2 e3 e4 f4 hr1 hr2
                  refine wp_region_any (by kernel_rfl) ?_
                  show wpAny _ _ _ _ _ _ _ Z5.drew
                  rw [hYd]
                  refine takeA (i := 0) (d := some 42) (v := ?vT55) rfl rfl (by kernel_rfl) (by kernel_rfl) (by kernel_rfl) (fun _ _ _ h => h) (Or.inl ⟨by rfl, ?hyT55⟩) ?rstT55
                  case hyT55 => (intro w; go_simp; (try with_reducible rfl))
                  try simp only [Act.put, List.setIfInBounds_toArray, List.set_cons_zero, List.set_cons_succ]
                  refine takeA (i := 1) (d := some 43) (v := ?vT56) rfl rfl (by kernel_rfl) (by kernel_rfl) (by kernel_rfl) (fun _ _ _ h => h) (Or.inl ⟨by rfl, ?hyT56⟩) ?rstT56
                  case hyT56 => (intro w; go_simp; (try with_reducible rfl))
                  try simp only [Act.put, List.setIfInBounds_toArray, List.set_cons_zero, List.set_cons_succ]
                  refine takeA (i := 2) (d := some 44) (v := ?vT57) rfl rfl (by kernel_rfl) (by kernel_rfl) (by kernel_rfl) (fun _ _ _ h => h) (Or.inl ⟨by rfl, ?hyT57⟩) ?rstT57
                  case hyT57 => (intro w; go_simp; (try with_reducible rfl))
                  try simp only [Act.put, List.setIfInBounds_toArray, List.set_cons_zero, List.set_cons_succ]
                  refine takeA (i := 3) (d := some 45) (v := ?vT58) rfl rfl (by kernel_rfl) (by kernel_rfl) (by kernel_rfl) (fun _ _ _ h => h) (Or.inl ⟨by rfl, ?hyT58⟩) ?rstT58
                  case hyT58 => (intro w; go_simp; (try with_reducible rfl))
                  try simp only [Act.put, List.setIfInBounds_toArray, List.set_cons_zero, List.set_cons_succ]
                  refine takeA (i := 5) (d := some 47) (v := ?vT59) rfl rfl (by kernel_rfl) (by kernel_rfl) (by kernel_rfl) (fun _ _ _ h => h) (Or.inl ⟨by rfl, ?hyT59⟩) ?rstT59
                  case hyT59 => (intro w; go_simp; (try with_reducible rfl))
                  try simp only [Act.put, List.setIfInBounds_toArray, List.set_cons_zero, List.set_cons_succ]
                  refine takeA (i := 6) (d := some 48) (v := ?vT60) rfl rfl (by kernel_rfl) (by kernel_rfl) (by kernel_rfl) (fun _ _ _ h => h) (Or.inl ⟨by rfl, ?hyT60⟩) ?rstT60
                  case hyT60 => (intro w; go_simp; (try with_reducible rfl))
                  try simp only [Act.put, List.setIfInBounds_toArray, List.set_cons_zero, List.set_cons_succ]
                  refine takeA (i := 7) (d := some 49) (v := ?vT61) rfl rfl (by kernel_rfl) (by kernel_rfl) (by kernel_rfl) (fun _ _ _ h => h) (Or.inl ⟨by rfl, ?hyT61⟩) ?rstT61
                  case hyT61 => (intro w; go_simp; (try with_reducible rfl))
                  try simp only [Act.put, List.setIfInBounds_toArray, List.set_cons_zero, List.set_cons_succ]
                  refine takeA (i := 8) (d := some 50) (v := ?vT62) rfl rfl (by kernel_rfl) (by kernel_rfl) (by kernel_rfl) (fun _ _ _ h => h) (Or.inl ⟨by rfl, ?hyT62⟩) ?rstT62
                  case hyT62 => (intro w; go_simp; (try with_reducible rfl))
                  try simp only [Act.put, List.setIfInBounds_toArray, List.set_cons_zero, List.set_cons_succ]
                  refine wpAny_ready (rs := [4, 9]) (by kernel_rfl) (by simp) (consS rfl (fun K hK => ?b90) (consS rfl (fun K hK => ?b91) AllReady.nil))
                  case b90 =>
                    go_simp
                    refine hK.out _ _ ?_
                    clear hK K
                    try simp only [Act.put, List.setIfInBounds_toArray, List.set_cons_zero, List.set_cons_succ]
                    refine wpAny_ready (rs := [9]) (by kernel_rfl) (by simp) (consS rfl (fun K hK => ?b69) AllReady.nil)
                    case b69 =>
                      go_simp
                      refine hK.out _ _ ?_
                      clear hK K
                      try simp only [Act.put, List.setIfInBounds_toArray, List.set_cons_zero, List.set_cons_succ]
                      refine wpAny_ready (rs := [10]) (by kernel_rfl) (by simp) (consS rfl (fun K hK => ?b68) AllReady.nil)
                      case b68 =>
                        rw [if_pos (by rfl)]
                        refine wp_append_hr (.tmp 48) (.tmp 51) 56 (some 52) rfl rfl _ _ rfl rfl hs1 ?_
                        refine hK.out _ _ ?_
                        clear hK K
                        try simp only [Act.put, List.setIfInBounds_toArray, List.set_cons_zero, List.set_cons_succ]
                        refine wpAny_ready (rs := [11]) (by kernel_rfl) (by simp) (consS rfl (fun K hK => ?b67) AllReady.nil)
                        case b67 =>
                          go_simp
                          refine hK.out _ _ ?_
                          clear hK K
                          try simp only [Act.put, List.setIfInBounds_toArray, List.set_cons_zero, List.set_cons_succ]
                          refine wpAny_ready (rs := [12]) (by kernel_rfl) (by simp) (consS rfl (fun K hK => ?b66) AllReady.nil)
                          case b66 =>
                            rw [if_pos (by rfl)]
                            refine wp_append_hr (.tmp 46) (.tmp 53) 26 (some 54) rfl rfl _ _ rfl rfl hs2 ?_
                            refine hK.out _ _ ?_
                            clear hK K
                            try simp only [Act.put, List.setIfInBounds_toArray, List.set_cons_zero, List.set_cons_succ]
                            refine takeA (i := 13) (d := some 55) (v := ?vT63) rfl rfl (by kernel_rfl) (by kernel_rfl) (by kernel_rfl) (fun _ _ _ h => h) (Or.inl ⟨by rfl, ?hyT63⟩) ?rstT63
                            case hyT63 => (intro w; go_simp; (try with_reducible rfl))
                            try simp only [Act.put, List.setIfInBounds_toArray, List.set_cons_zero, List.set_cons_succ]
                            refine takeA (i := 14) (d := some 56) (v := ?vT64) rfl rfl (by kernel_rfl) (by kernel_rfl) (by kernel_rfl) (fun _ _ _ h => h) (Or.inl ⟨by rfl, ?hyT64⟩) ?rstT64
                            case hyT64 => (intro w; go_simp; (try with_reducible rfl))
                            try simp only [Act.put, List.setIfInBounds_toArray, List.set_cons_zero, List.set_cons_succ]
                            refine wpAny_ready (rs := [15]) (by kernel_rfl) (by simp) (consS rfl (fun K hK => ?b65) AllReady.nil)
                            case b65 =>
                              go_simp
                              refine hK.out _ _ ?_
                              clear hK K
                              try simp only [Act.put, List.setIfInBounds_toArray, List.set_cons_zero, List.set_cons_succ]
                              refine wpAny_done (by kernel_rfl) ?_ _
                              go_wp2_with fail
                              go_end0
                              exact ⟨rfl, HE.out⟩
                  case b91 =>
                    go_simp
                    refine hK.out _ _ ?_
                    clear hK K
                    try simp only [Act.put, List.setIfInBounds_toArray, List.set_cons_zero, List.set_cons_succ]
                    refine wpAny_ready (rs := [4, 10]) (by kernel_rfl) (by simp) (consS rfl (fun K hK => ?b88) (consS rfl (fun K hK => ?b89) AllReady.nil))
                    case b88 =>
                      go_simp
                      refine hK.out _ _ ?_
                      clear hK K
                      try simp only [Act.put, List.setIfInBounds_toArray, List.set_cons_zero, List.set_cons_succ]
                      refine wpAny_ready (rs := [10]) (by kernel_rfl) (by simp) (consS rfl (fun K hK => ?b75) AllReady.nil)
                      case b75 =>
                        rw [if_pos (by rfl)]
                        refine wp_append_hr (.tmp 48) (.tmp 51) 56 (some 52) rfl rfl _ _ rfl rfl hs1 ?_
                        refine hK.out _ _ ?_
                        clear hK K
                        try simp only [Act.put, List.setIfInBounds_toArray, List.set_cons_zero, List.set_cons_succ]
                        refine wpAny_ready (rs := [11]) (by kernel_rfl) (by simp) (consS rfl (fun K hK => ?b74) AllReady.nil)
                        case b74 =>
                          go_simp
                          refine hK.out _ _ ?_
                          clear hK K
                          try simp only [Act.put, List.setIfInBounds_toArray, List.set_cons_zero, List.set_cons_succ]
                          refine wpAny_ready (rs := [12]) (by kernel_rfl) (by simp) (consS rfl (fun K hK => ?b73) AllReady.nil)
                          case b73 =>
                            rw [if_pos (by rfl)]
                            refine wp_append_hr (.tmp 46) (.tmp 53) 26 (some 54) rfl rfl _ _ rfl rfl hs2 ?_
                            refine hK.out _ _ ?_
                            clear hK K
                            try simp only [Act.put, List.setIfInBounds_toArray, List.set_cons_zero, List.set_cons_succ]
                            refine takeA (i := 13) (d := some 55) (v := ?vT70) rfl rfl (by kernel_rfl) (by kernel_rfl) (by kernel_rfl) (fun _ _ _ h => h) (Or.inl ⟨by rfl, ?hyT70⟩) ?rstT70
                            case hyT70 => (intro w; go_simp; (try with_reducible rfl))
                            try simp only [Act.put, List.setIfInBounds_toArray, List.set_cons_zero, List.set_cons_succ]
                            refine takeA (i := 14) (d := some 56) (v := ?vT71) rfl rfl (by kernel_rfl) (by kernel_rfl) (by kernel_rfl) (fun _ _ _ h => h) (Or.inl ⟨by rfl, ?hyT71⟩) ?rstT71
                            case hyT71 => (intro w; go_simp; (try with_reducible rfl))
                            try simp only [Act.put, List.setIfInBounds_toArray, List.set_cons_zero, List.set_cons_succ]
                            refine wpAny_ready (rs := [15]) (by kernel_rfl) (by simp) (consS rfl (fun K hK => ?b72) AllReady.nil)
                            case b72 =>
                              go_simp
                              refine hK.out _ _ ?_
                              clear hK K
                              try simp only [Act.put, List.setIfInBounds_toArray, List.set_cons_zero, List.set_cons_succ]
                              refine wpAny_done (by kernel_rfl) ?_ _
                              go_wp2_with fail
                              go_end0
                              exact ⟨rfl, HE.out⟩
                    case b89 =>
                      rw [if_pos (by rfl)]
                      refine wp_append_hr (.tmp 48) (.tmp 51) 56 (some 52) rfl rfl _ _ rfl rfl hs1 ?_
                      refine hK.out _ _ ?_
                      clear hK K
                      try simp only [Act.put, List.setIfInBounds_toArray, List.set_cons_zero, List.set_cons_succ]
                      refine wpAny_ready (rs := [4, 11]) (by kernel_rfl) (by simp) (consS rfl (fun K hK => ?b86) (consS rfl (fun K hK => ?b87) AllReady.nil))
                      case b86 =>
                        go_simp
                        refine hK.out _ _ ?_
                        clear hK K
                        try simp only [Act.put, List.setIfInBounds_toArray, List.set_cons_zero, List.set_cons_succ]
                        refine wpAny_ready (rs := [11]) (by kernel_rfl) (by simp) (consS rfl (fun K hK => ?b80) AllReady.nil)
                        case b80 =>
                          go_simp
                          refine hK.out _ _ ?_
                          clear hK K
                          try simp only [Act.put, List.setIfInBounds_toArray, List.set_cons_zero, List.set_cons_succ]
                          refine wpAny_ready (rs := [12]) (by kernel_rfl) (by simp) (consS rfl (fun K hK => ?b79) AllReady.nil)
                          case b79 =>
                            rw [if_pos (by rfl)]
                            refine wp_append_hr (.tmp 46) (.tmp 53) 26 (some 54) rfl rfl _ _ rfl rfl hs2 ?_
                            refine hK.out _ _ ?_
                            clear hK K
                            try simp only [Act.put, List.setIfInBounds_toArray, List.set_cons_zero, List.set_cons_succ]
                            refine takeA (i := 13) (d := some 55) (v := ?vT76) rfl rfl (by kernel_rfl) (by kernel_rfl) (by kernel_rfl) (fun _ _ _ h => h) (Or.inl ⟨by rfl, ?hyT76⟩) ?rstT76
                            case hyT76 => (intro w; go_simp; (try with_reducible rfl))
                            try simp only [Act.put, List.setIfInBounds_toArray, List.set_cons_zero, List.set_cons_succ]
                            refine takeA (i := 14) (d := some 56) (v := ?vT77) rfl rfl (by kernel_rfl) (by kernel_rfl) (by kernel_rfl) (fun _ _ _ h => h) (Or.inl ⟨by rfl, ?hyT77⟩) ?rstT77
                            case hyT77 => (intro w; go_simp; (try with_reducible rfl))
                            try simp only [Act.put, List.setIfInBounds_toArray, List.set_cons_zero, List.set_cons_succ]
                            refine wpAny_ready (rs := [15]) (by kernel_rfl) (by simp) (consS rfl (fun K hK => ?b78) AllReady.nil)
                            case b78 =>
                              go_simp
                              refine hK.out _ _ ?_
                              clear hK K
                              try simp only [Act.put, List.setIfInBounds_toArray, List.set_cons_zero, List.set_cons_succ]
                              refine wpAny_done (by kernel_rfl) ?_ _
                              go_wp2_with fail
                              go_end0
                              exact ⟨rfl, HE.out⟩
                      case b87 =>
                        go_simp
                        refine hK.out _ _ ?_
                        clear hK K
                        try simp only [Act.put, List.setIfInBounds_toArray, List.set_cons_zero, List.set_cons_succ]
                        refine wpAny_ready (rs := [4]) (by kernel_rfl) (by simp) (consS rfl (fun K hK => ?b85) AllReady.nil)
                        case b85 =>
                          go_simp
                          refine hK.out _ _ ?_
                          clear hK K
                          try simp only [Act.put, List.setIfInBounds_toArray, List.set_cons_zero, List.set_cons_succ]
                          refine wpAny_ready (rs := [12]) (by kernel_rfl) (by simp) (consS rfl (fun K hK => ?b84) AllReady.nil)
                          case b84 =>
                            rw [if_pos (by rfl)]
                            refine wp_append_hr (.tmp 46) (.tmp 53) 26 (some 54) rfl rfl _ _ rfl rfl hs2 ?_
                            refine hK.out _ _ ?_
                            clear hK K
                            try simp only [Act.put, List.setIfInBounds_toArray, List.set_cons_zero, List.set_cons_succ]
                            refine takeA (i := 13) (d := some 55) (v := ?vT81) rfl rfl (by kernel_rfl) (by kernel_rfl) (by kernel_rfl) (fun _ _ _ h => h) (Or.inl ⟨by rfl, ?hyT81⟩) ?rstT81
                            case hyT81 => (intro w; go_simp; (try with_reducible rfl))
                            try simp only [Act.put, List.setIfInBounds_toArray, List.set_cons_zero, List.set_cons_succ]
                            refine takeA (i := 14) (d := some 56) (v := ?vT82) rfl rfl (by kernel_rfl) (by kernel_rfl) (by kernel_rfl) (fun _ _ _ h => h) (Or.inl ⟨by rfl, ?hyT82⟩) ?rstT82
                            case hyT82 => (intro w; go_simp; (try with_reducible rfl))
                            try simp only [Act.put, List.setIfInBounds_toArray, List.set_cons_zero, List.set_cons_succ]
                            refine wpAny_ready (rs := [15]) (by kernel_rfl) (by simp) (consS rfl (fun K hK => ?b83) AllReady.nil)
                            case b83 =>
                              go_simp
                              refine hK.out _ _ ?_
                              clear hK K
                              try simp only [Act.put, List.setIfInBounds_toArray, List.set_cons_zero, List.set_cons_succ]
                              refine wpAny_done (by kernel_rfl) ?_ _
                              go_wp2_with fail
                              go_end0
                              exact ⟨rfl, HE.out⟩
        case b183 =>
          rw [if_pos (by rfl)]
          refine wp_append_hr (.tmp 33) (.tmp 36) 56 (some 37) rfl rfl _ _ rfl rfl hr1 ?_
          refine hK.out _ _ ?_
          clear hK K
          try simp only [Act.put, List.setIfInBounds_toArray, List.set_cons_zero, List.set_cons_succ]
          refine wpAny_ready (rs := [4, 11]) (by kernel_rfl) (by simp) (consS rfl (fun K hK => ?b180) (consS rfl (fun K hK => ?b181) AllReady.nil))
          case b180 =>
            go_simp
            refine hK.out _ _ ?_
            clear hK K
            try simp only [Act.put, List.setIfInBounds_toArray, List.set_cons_zero, List.set_cons_succ]
            refine wpAny_ready (rs := [11]) (by kernel_rfl) (by simp) (consS rfl (fun K hK => ?b137) AllReady.nil)
            case b137 =>
              go_simp
              refine hK.out _ _ ?_
              clear hK K
              try simp only [Act.put, List.setIfInBounds_toArray, List.set_cons_zero, List.set_cons_succ]
              refine wpAny_ready (rs := [12]) (by kernel_rfl) (by simp) (consS rfl (fun K hK => ?b136) AllReady.nil)
              case b136 =>
                rw [if_pos (by rfl)]
                refine wp_append_hr (.tmp 31) (.tmp 38) 26 (some 39) rfl rfl _ _ rfl rfl hr2 ?_
                refine hK.out _ _ ?_
                clear hK K
                try simp only [Act.put, List.setIfInBounds_toArray, List.set_cons_zero, List.set_cons_succ]
                refine takeA (i := 13) (d := some 40) (v := ?vT96) rfl rfl (by kernel_rfl) (by kernel_rfl) (by kernel_rfl) (fun _ _ _ h => h) (Or.inl ⟨by rfl, ?hyT96⟩) ?rstT96
                case hyT96 => (intro w; go_simp; (try with_reducible rfl))
                try simp only [Act.put, List.setIfInBounds_toArray, List.set_cons_zero, List.set_cons_succ]
                refine takeA (i := 14) (d := some 41) (v := ?vT97) rfl rfl (by kernel_rfl) (by kernel_rfl) (by kernel_rfl) (fun _ _ _ h => h) (Or.inl ⟨by rfl, ?hyT97⟩) ?rstT97
                case hyT97 => (intro w; go_simp; (try with_reducible rfl))
                try simp only [Act.put, List.setIfInBounds_toArray, List.set_cons_zero, List.set_cons_succ]
                refine wpAny_ready (rs := [15]) (by kernel_rfl) (by simp) (consS rfl (fun K hK => ?b135) AllReady.nil)
                case b135 =>
                  go_simp
                  refine hK.out _ _ ?_
                  clear hK K
                  try simp only [Act.put, List.setIfInBounds_toArray, List.set_cons_zero, List.set_cons_succ]
                  refine wpAny_done (by kernel_rfl) ?_ _
                  go_wp2_with fail
                  clear e0 e1 e2 e3 e4 f4 hr1 hr2
                  refine wp_region_any (by kernel_rfl) ?_
                  show wpAny _ _ _ _ _ _ _ Z5.drew
                  rw [hYd]
                  refine takeA (i := 0) (d := some 42) (v := ?vT98) rfl rfl (by kernel_rfl) (by kernel_rfl) (by kernel_rfl) (fun _ _ _ h => h) (Or.inl ⟨by rfl, ?hyT98⟩) ?rstT98
                  case hyT98 => (intro w; go_simp; (try with_reducible rfl))
                  try simp only [Act.put, List.setIfInBounds_toArray, List.set_cons_zero, List.set_cons_succ]
                  refine takeA (i := 1) (d := some 43) (v := ?vT99) rfl rfl (by kernel_rfl) (by kernel_rfl) (by kernel_rfl) (fun _ _ _ h => h) (Or.inl ⟨by rfl, ?hyT99⟩) ?rstT99
                  case hyT99 => (intro w; go_simp; (try with_reducible rfl))
                  try simp only [Act.put, List.setIfInBounds_toArray, List.set_cons_zero, List.set_cons_succ]
                  refine takeA (i := 2) (d := some 44) (v := ?vT100) rfl rfl (by kernel_rfl) (by kernel_rfl) (by kernel_rfl) (fun _ _ _ h => h) (Or.inl ⟨by rfl, ?hyT100⟩) ?rstT100
                  case hyT100 => (intro w; go_simp; (try with_reducible rfl))
                  try simp only [Act.put, List.setIfInBounds_toArray, List.set_cons_zero, List.set_cons_succ]
                  refine takeA (i := 3) (d := some 45) (v := ?vT101) rfl rfl (by kernel_rfl) (by kernel_rfl) (by kernel_rfl) (fun _ _ _ h => h) (Or.inl ⟨by rfl, ?hyT101⟩) ?rstT101
                  case hyT101 => (intro w; go_simp; (try with_reducible rfl))
                  try simp only [Act.put, List.setIfInBounds_toArray, List.set_cons_zero, List.set_cons_succ]
                  refine takeA (i := 5) (d := some 47) (v := ?vT102) rfl rfl (by kernel_rfl) (by kernel_rfl) (by kernel_rfl) (fun _ _ _ h => h) (Or.inl ⟨by rfl, ?hyT102⟩) ?rstT102
                  case hyT102 => (intro w; go_simp; (try with_reducible rfl))
                  try simp only [Act.put, List.setIfInBounds_toArray, List.set_cons_zero, List.set_cons_succ]
                  refine takeA (i := 6) (d := some 48) (v := ?vT103) rfl rfl (by kernel_rfl) (by kernel_rfl) (by kernel_rfl) (fun _ _ _ h => h) (Or.inl ⟨by rfl, ?hyT103⟩) ?rstT103
                  case hyT103 => (intro w; go_simp; (try with_reducible rfl))
                  try simp only [Act.put, List.setIfInBounds_toArray, List.set_cons_zero, List.set_cons_succ]
                  refine takeA (i := 7) (d := some 49) (v := ?vT104) rfl rfl (by kernel_rfl) (by kernel_rfl) (by kernel_rfl) (fun _ _ _ h => h) (Or.inl ⟨by rfl, ?hyT104⟩) ?rstT104
                  case hyT104 => (intro w; go_simp; (try with_reducible rfl))
                  try simp only [Act.put, List.setIfInBounds_toArray, List.set_cons_zero, List.set_cons_succ]
                  refine takeA (i := 8) (d := some 50) (v := ?vT105) rfl rfl (by kernel_rfl) (by kernel_rfl) (by kernel_rfl) (fun _ _ _ h => h) (Or.inl ⟨by rfl, ?hyT105⟩) ?rstT105
                  case hyT105 => (intro w; go_simp; (try with_reducible rfl))
                  try simp only [Act.put, List.setIfInBounds_toArray, List.set_cons_zero, List.set_cons_succ]
                  refine wpAny_ready (rs := [4, 9]) (by kernel_rfl) (by simp) (consS rfl (fun K hK => ?b133) (consS rfl (fun K hK => ?b134) AllReady.nil))
                  case b133 =>
                    go_simp
                    refine hK.out _ _ ?_
                    clear hK K
                    try simp only [Act.put, List.setIfInBounds_toArray, List.set_cons_zero, List.set_cons_succ]
                    refine wpAny_ready (rs := [9]) (by kernel_rfl) (by simp) (consS rfl (fun K hK => ?b112) AllReady.nil)
                    case b112 =>
                      go_simp
                      refine hK.out _ _ ?_
                      clear hK K
                      try simp only [Act.put, List.setIfInBounds_toArray, List.set_cons_zero, List.set_cons_succ]
                      refine wpAny_ready (rs := [10]) (by kernel_rfl) (by simp) (consS rfl (fun K hK => ?b111) AllReady.nil)
                      case b111 =>
                        rw [if_pos (by rfl)]
                        refine wp_append_hr (.tmp 48) (.tmp 51) 56 (some 52) rfl rfl _ _ rfl rfl hs1 ?_
                        refine hK.out _ _ ?_
                        clear hK K
                        try simp only [Act.put, List.setIfInBounds_toArray, List.set_cons_zero, List.set_cons_succ]
                        refine wpAny_ready (rs := [11]) (by kernel_rfl) (by simp) (consS rfl (fun K hK => ?b110) AllReady.nil)
                        case b110 =>
                          go_simp
                          refine hK.out _ _ ?_
                          clear hK K
                          try simp only [Act.put, List.setIfInBounds_toArray, List.set_cons_zero, List.set_cons_succ]
                          refine wpAny_ready (rs := [12]) (by kernel_rfl) (by simp) (consS rfl (fun K hK => ?b109) AllReady.nil)
                          case b109 =>
                            rw [if_pos (by rfl)]
                            refine wp_append_hr (.tmp 46) (.tmp 53) 26 (some 54) rfl rfl _ _ rfl rfl hs2 ?_
                            refine hK.out _ _ ?_
                            clear hK K
                            try simp only [Act.put, List.setIfInBounds_toArray, List.set_cons_zero, List.set_cons_succ]
                            refine takeA (i := 13) (d := some 55) (v := ?vT106) rfl rfl (by kernel_rfl) (by kernel_rfl) (by kernel_rfl) (fun _ _ _ h => h) (Or.inl ⟨by rfl, ?hyT106⟩) ?rstT106
                            case hyT106 => (intro w; go_simp; (try with_reducible rfl))
                            try simp only [Act.put, List.setIfInBounds_toArray, List.set_cons_zero, List.set_cons_succ]
                            refine takeA (i := 14) (d := some 56) (v := ?vT107) rfl rfl (by kernel_rfl) (by kernel_rfl) (by kernel_rfl) (fun _ _ _ h => h) (Or.inl ⟨by rfl, ?hyT107⟩) ?rstT107
                            case hyT107 => (intro w; go_simp; (try with_reducible rfl))
                            try simp only [Act.put, List.setIfInBounds_toArray, List.set_cons_zero, List.set_cons_succ]
                            refine wpAny_ready (rs := [15]) (by kernel_rfl) (by simp) (consS rfl (fun K hK => ?b108) AllReady.nil)
                            case b108 =>
                              go_simp
                              refine hK.out _ _ ?_
                              clear hK K
                              try simp only [Act.put, List.setIfInBounds_toArray, List.set_cons_zero, List.set_cons_succ]
                              refine wpAny_done (by kernel_rfl) ?_ _
                              go_wp2_with fail
                              go_end0
                              exact ⟨rfl, HE.out⟩
                  case b134 =>
                    go_simp
                    refine hK.out _ _ ?_
                    clear hK K
                    try simp only [Act.put, List.setIfInBounds_toArray, List.set_cons_zero, List.set_cons_succ]
                    refine wpAny_ready (rs := [4, 10]) (by kernel_rfl) (by simp) (consS rfl (fun K hK => ?b131) (consS rfl (fun K hK => ?b132) AllReady.nil))
                    case b131 =>
                      go_simp
                      refine hK.out _ _ ?_
                      clear hK K
                      try simp only [Act.put, List.setIfInBounds_toArray, List.set_cons_zero, List.set_cons_succ]
                      refine wpAny_ready (rs := [10]) (by kernel_rfl) (by simp) (consS rfl (fun K hK => ?b118) AllReady.nil)
                      case b118 =>
                        rw [if_pos (by rfl)]
                        refine wp_append_hr (.tmp 48) (.tmp 51) 56 (some 52) rfl rfl _ _ rfl rfl hs1 ?_
                        refine hK.out _ _ ?_
                        clear hK K
                        try simp only [Act.put, List.setIfInBounds_toArray, List.set_cons_zero, List.set_cons_succ]
                        refine wpAny_ready (rs := [11]) (by kernel_rfl) (by simp) (consS rfl (fun K hK => ?b117) AllReady.nil)
                        case b117 =>
                          go_simp
                          refine hK.out _ _ ?_
                          clear hK K
                          try simp only [Act.put, List.setIfInBounds_toArray, List.set_cons_zero, List.set_cons_succ]
                          refine wpAny_ready (rs := [12]) (by kernel_rfl) (by simp) (consS rfl (fun K hK => ?b116) AllReady.nil)
                          case b116 =>
                            rw [if_pos (by rfl)]
                            refine wp_append_hr (.tmp 46) (.tmp 53) 26 (some 54) rfl rfl _ _ rfl rfl hs2 ?_
                            refine hK.out _ _ ?_
                            clear hK K
                            try simp only [Act.put, List.setIfInBounds_toArray, List.set_cons_zero, List.set_cons_succ]
                            refine takeA (i := 13) (d := some 55) (v := ?vT113) rfl rfl (by kernel_rfl) (by kernel_rfl) (by kernel_rfl) (fun _ _ _ h => h) (Or.inl ⟨by rfl, ?hyT113⟩) ?rstT113
                            case hyT113 => (intro w; go_simp; (try with_reducible rfl))
                            try simp only [Act.put, List.setIfInBounds_toArray, List.set_cons_zero, List.set_cons_succ]
                            refine takeA (i := 14) (d := some 56) (v := ?vT114) rfl rfl (by kernel_rfl) (by kernel_rfl) (by kernel_rfl) (fun _ _ _ h => h) (Or.inl ⟨by rfl, ?hyT114⟩) ?rstT114
                            case hyT114 => (intro w; go_simp; (try with_reducible rfl))
                            try simp only [Act.put, List.setIfInBounds_toArray, List.set_cons_zero, List.set_cons_succ]
                            refine wpAny_ready (rs := [15]) (by kernel_rfl) (by simp) (consS rfl (fun K hK => ?b115) AllReady.nil)
                            case b115 =>
                              go_simp
                              refine hK.out _ _ ?_
                              clear hK K
                              try simp only [Act.put, List.setIfInBounds_toArray, List.set_cons_zero, List.set_cons_succ]
                              refine wpAny_done (by kernel_rfl) ?_ _
                              go_wp2_with fail
                              go_end0
                              exact ⟨rfl, HE.out⟩
                    case b132 =>
                      rw [if_pos (by rfl)]
                      refine wp_append_hr (.tmp 48) (.tmp 51) 56 (some 52) rfl rfl _ _ rfl rfl hs1 ?_
                      refine hK.out _ _ ?_
                      clear hK K
                      try simp only [Act.put, List.setIfInBounds_toArray, List.set_cons_zero, List.set_cons_succ]
                      refine wpAny_ready (rs := [4, 11]) (by kernel_rfl) (by simp) (consS rfl (fun K hK => ?b129) (consS rfl (fun K hK => ?b130) AllReady.nil))
                      case b129 =>
                        go_simp
                        refine hK.out _ _ ?_
                        clear hK K
                        try simp only [Act.put, List.setIfInBounds_toArray, List.set_cons_zero, List.set_cons_succ]
                        refine wpAny_ready (rs := [11]) (by kernel_rfl) (by simp) (consS rfl (fun K hK => ?b123) AllReady.nil)
                        case b123 =>
                          go_simp
                          refine hK.out _ _ ?_
                          clear hK K
                          try simp only [Act.put, List.setIfInBounds_toArray, List.set_cons_zero, List.set_cons_succ]
                          refine wpAny_ready (rs := [12]) (by kernel_rfl) (by simp) (consS rfl (fun K hK => ?b122) AllReady.nil)
                          case b122 =>
                            rw [if_pos (by rfl)]
                            refine wp_append_hr (.tmp 46) (.tmp 53) 26 (some 54) rfl rfl _ _ rfl rfl hs2 ?_
                            refine hK.out _ _ ?_
                            clear hK K
                            try simp only [Act.put, List.setIfInBounds_toArray, List.set_cons_zero, List.set_cons_succ]
                            refine takeA (i := 13) (d := some 55) (v := ?vT119) rfl rfl (by kernel_rfl) (by kernel_rfl) (by kernel_rfl) (fun _ _ _ h => h) (Or.inl ⟨by rfl, ?hyT119⟩) ?rstT119
                            case hyT119 => (intro w; go_simp; (try with_reducible rfl))
                            try simp only [Act.put, List.setIfInBounds_toArray, List.set_cons_zero, List.set_cons_succ]
                            refine takeA (i := 14) (d := some 56) (v := ?vT120) rfl rfl (by kernel_rfl) (by kernel_rfl) (by kernel_rfl) (fun _ _ _ h => h) (Or.inl ⟨by rfl, ?hyT120⟩) ?rstT120
                            case hyT120 => (intro w; go_simp; (try with_reducible rfl))
                            try simp only [Act.put, List.setIfInBounds_toArray, List.set_cons_zero, List.set_cons_succ]
                            refine wpAny_ready (rs := [15]) (by kernel_rfl) (by simp) (consS rfl (fun K hK => ?b121) AllReady.nil)
                            case b121 =>
                              go_simp
                              refine hK.out _ _ ?_
                              clear hK K
                              try simp only [Act.put, List.setIfInBounds_toArray, List.set_cons_zero, List.set_cons_succ]
                              refine wpAny_done (by kernel_rfl) ?_ _
                              go_wp2_with fail
                              go_end0
                              exact ⟨rfl, HE.out⟩
                      case b130 =>
                        go_simp
                        refine hK.out _ _ ?_
                        clear hK K
                        try simp only [Act.put, List.setIfInBounds_toArray, List.set_cons_zero, List.set_cons_succ]
                        refine wpAny_ready (rs := [4]) (by kernel_rfl) (by simp) (consS rfl (fun K hK => ?b128) AllReady.nil)
                        case b128 =>
                          go_simp
                          refine hK.out _ _ ?_
                          clear hK K
                          try simp only [Act.put, List.setIfInBounds_toArray, List.set_cons_zero, List.set_cons_succ]
                          refine wpAny_ready (rs := [12]) (by kernel_rfl) (by simp) (consS rfl (fun K hK => ?b127) AllReady.nil)
                          case b127 =>
                            rw [if_pos (by rfl)]
                            refine wp_append_hr (.tmp 46) (.tmp 53) 26 (some 54) rfl rfl _ _ rfl rfl hs2 ?_
                            refine hK.out _ _ ?_
                            clear hK K
                            try simp only [Act.put, List.setIfInBounds_toArray, List.set_cons_zero, List.set_cons_succ]
                            refine takeA (i := 13) (d := some 55) (v := ?vT124) rfl rfl (by kernel_rfl) (by kernel_rfl) (by kernel_rfl) (fun _ _ _ h => h) (Or.inl ⟨by rfl, ?hyT124⟩) ?rstT124
                            case hyT124 => (intro w; go_simp; (try with_reducible rfl))
                            try simp only [Act.put, List.setIfInBounds_toArray, List.set_cons_zero, List.set_cons_succ]
                            refine takeA (i := 14) (d := some 56) (v := ?vT125) rfl rfl (by kernel_rfl) (by kernel_rfl) (by kernel_rfl) (fun _ _ _ h => h) (Or.inl ⟨by rfl, ?hyT125⟩) ?rstT125
                            case hyT125 => (intro w; go_simp; (try with_reducible rfl))
                            try simp only [Act.put, List.setIfInBounds_toArray, List.set_cons_zero, List.set_cons_succ]
                            refine wpAny_ready (rs := [15]) (by kernel_rfl) (by simp) (consS rfl (fun K hK => ?b126) AllReady.nil)
                            case b126 =>
                              go_simp
                              refine hK.out _ _ ?_
                              clear hK K
                              try simp only [Act.put, List.setIfInBounds_toArray, List.set_cons_zero, List.set_cons_succ]
                              refine wpAny_done (by kernel_rfl) ?_ _
                              go_wp2_with fail
                              go_end0
                              exact ⟨rfl, HE.out⟩
          case b181 =>
            go_simp
            refine hK.out _ _ ?_
            clear hK K
            try simp only [Act.put, List.setIfInBounds_toArray, List.set_cons_zero, List.set_cons_succ]
            refine wpAny_ready (rs := [4]) (by kernel_rfl) (by simp) (consS rfl (fun K hK => ?b179) AllReady.nil)
            case b179 =>
              go_simp
              refine hK.out _ _ ?_
              clear hK K
              try simp only [Act.put, List.setIfInBounds_toArray, List.set_cons_zero, List.set_cons_succ]
              refine wpAny_ready (rs := [12]) (by kernel_rfl) (by simp) (consS rfl (fun K hK => ?b178) AllReady.nil)
              case b178 =>
                rw [if_pos (by rfl)]
                refine wp_append_hr (.tmp 31) (.tmp 38) 26 (some 39) rfl rfl _ _ rfl rfl hr2 ?_
                refine hK.out _ _ ?_
                clear hK K
                try simp only [Act.put, List.setIfInBounds_toArray, List.set_cons_zero, List.set_cons_succ]
                refine takeA (i := 13) (d := some 40) (v := ?vT138) rfl rfl (by kernel_rfl) (by kernel_rfl) (by kernel_rfl) (fun _ _ _ h => h) (Or.inl ⟨by rfl, ?hyT138⟩) ?rstT138
                case hyT138 => (intro w; go_simp; (try with_reducible rfl))
                try simp only [Act.put, List.setIfInBounds_toArray, List.set_cons_zero, List.set_cons_succ]
                refine takeA (i := 14) (d := some 41) (v := ?vT139) rfl rfl (by kernel_rfl) (by kernel_rfl) (by kernel_rfl) (fun _ _ _ h => h) (Or.inl ⟨by rfl, ?hyT139⟩) ?rstT139
                case hyT139 => (intro w; go_simp; (try with_reducible rfl))
                try simp only [Act.put, List.setIfInBounds_toArray, List.set_cons_zero, List.set_cons_succ]
                refine wpAny_ready (rs := [15]) (by kernel_rfl) (by simp) (consS rfl (fun K hK => ?b177) AllReady.nil)
                case b177 =>
                  go_simp
                  refine hK.out _ _ ?_
                  clear hK K
                  try simp only [Act.put, List.setIfInBounds_toArray, List.set_cons_zero, List.set_cons_succ]
                  refine wpAny_done (by kernel_rfl) ?_ _
                  go_wp2_with fail
                  clear e0 e1 e2 e3 e4 f4 hr1 hr2
                  refine wp_region_any (by kernel_rfl) ?_
                  show wpAny _ _ _ _ _ _ _ Z5.drew
                  rw [hYd]
                  refine takeA (i := 0) (d := some 42) (v := ?vT140) rfl rfl (by kernel_rfl) (by kernel_rfl) (by kernel_rfl) (fun _ _ _ h => h) (Or.inl ⟨by rfl, ?hyT140⟩) ?rstT140
                  case hyT140 => (intro w; go_simp; (try with_reducible rfl))
                  try simp only [Act.put, List.setIfInBounds_toArray, List.set_cons_zero, List.set_cons_succ]
                  refine takeA (i := 1) (d := some 43) (v := ?vT141) rfl rfl (by kernel_rfl) (by kernel_rfl) (by kernel_rfl) (fun _ _ _ h => h) (Or.inl ⟨by rfl, ?hyT141⟩) ?rstT141
                  case hyT141 => (intro w; go_simp; (try with_reducible rfl))
                  try simp only [Act.put, List.setIfInBounds_toArray, List.set_cons_zero, List.set_cons_succ]
                  refine takeA (i := 2) (d := some 44) (v := ?vT142) rfl rfl (by kernel_rfl) (by kernel_rfl) (by kernel_rfl) (fun _ _ _ h => h) (Or.inl ⟨by rfl, ?hyT142⟩) ?rstT142
                  case hyT142 => (intro w; go_simp; (try with_reducible rfl))
                  try simp only [Act.put, List.setIfInBounds_toArray, List.set_cons_zero, List.set_cons_succ]
                  refine takeA (i := 3) (d := some 45) (v := ?vT143) rfl rfl (by kernel_rfl) (by kernel_rfl) (by kernel_rfl) (fun _ _ _ h => h) (Or.inl ⟨by rfl, ?hyT143⟩) ?rstT143
                  case hyT143 => (intro w; go_simp; (try with_reducible rfl))
                  try simp only [Act.put, List.setIfInBounds_toArray, List.set_cons_zero, List.set_cons_succ]
                  refine takeA (i := 5) (d := some 47) (v := ?vT144) rfl rfl (by kernel_rfl) (by kernel_rfl) (by kernel_rfl) (fun _ _ _ h => h) (Or.inl ⟨by rfl, ?hyT144⟩) ?rstT144
                  case hyT144 => (intro w; go_simp; (try with_reducible rfl))
                  try simp only [Act.put, List.setIfInBounds_toArray, List.set_cons_zero, List.set_cons_succ]
                  refine takeA (i := 6) (d := some 48) (v := ?vT145) rfl rfl (by kernel_rfl) (by kernel_rfl) (by kernel_rfl) (fun _ _ _ h => h) (Or.inl ⟨by rfl, ?hyT145⟩) ?rstT145
                  case hyT145 => (intro w; go_simp; (try with_reducible rfl))
                  try simp only [Act.put, List.setIfInBounds_toArray, List.set_cons_zero, List.set_cons_succ]
                  refine takeA (i := 7) (d := some 49) (v := ?vT146) rfl rfl (by kernel_rfl) (by kernel_rfl) (by kernel_rfl) (fun _ _ _ h => h) (Or.inl ⟨by rfl, ?hyT146⟩) ?rstT146
                  case hyT146 => (intro w; go_simp; (try with_reducible rfl))
                  try simp only [Act.put, List.setIfInBounds_toArray, List.set_cons_zero, List.set_cons_succ]
                  refine takeA (i := 8) (d := some 50) (v := ?vT147) rfl rfl (by kernel_rfl) (by kernel_rfl) (by kernel_rfl) (fun _ _ _ h => h) (Or.inl ⟨by rfl, ?hyT147⟩) ?rstT147
                  case hyT147 => (intro w; go_simp; (try with_reducible rfl))
                  try simp only [Act.put, List.setIfInBounds_toArray, List.set_cons_zero, List.set_cons_succ]
                  refine wpAny_ready (rs := [4, 9]) (by kernel_rfl) (by simp) (consS rfl (fun K hK => ?b175) (consS rfl (fun K hK => ?b176) AllReady.nil))
                  case b175 =>
                    go_simp
                    refine hK.out _ _ ?_
                    clear hK K
                    try simp only [Act.put, List.setIfInBounds_toArray, List.set_cons_zero, List.set_cons_succ]
                    refine wpAny_ready (rs := [9]) (by kernel_rfl) (by simp) (consS rfl (fun K hK => ?b154) AllReady.nil)
                    case b154 =>
                      go_simp
                      refine hK.out _ _ ?_
                      clear hK K
                      try simp only [Act.put, List.setIfInBounds_toArray, List.set_cons_zero, List.set_cons_succ]
                      refine wpAny_ready (rs := [10]) (by kernel_rfl) (by simp) (consS rfl (fun K hK => ?b153) AllReady.nil)
                      case b153 =>
                        rw [if_pos (by rfl)]
                        refine wp_append_hr (.tmp 48) (.tmp 51) 56 (some 52) rfl rfl _ _ rfl rfl hs1 ?_
                        refine hK.out _ _ ?_
                        clear hK K
                        try simp only [Act.put, List.setIfInBounds_toArray, List.set_cons_zero, List.set_cons_succ]
                        refine wpAny_ready (rs := [11]) (by kernel_rfl) (by simp) (consS rfl (fun K hK => ?b152) AllReady.nil)
                        case b152 =>
                          go_simp
                          refine hK.out _ _ ?_
                          clear hK K
                          try simp only [Act.put, List.setIfInBounds_toArray, List.set_cons_zero, List.set_cons_succ]
                          refine wpAny_ready (rs := [12]) (by kernel_rfl) (by simp) (consS rfl (fun K hK => ?b151) AllReady.nil)
                          case b151 =>
                            rw [if_pos (by rfl)]
                            refine wp_append_hr (.tmp 46) (.tmp 53) 26 (some 54) rfl rfl _ _ rfl rfl hs2 ?_
                            refine hK.out _ _ ?_
                            clear hK K
                            try simp only [Act.put, List.setIfInBounds_toArray, List.set_cons_zero, List.set_cons_succ]
                            refine takeA (i := 13) (d := some 55) (v := ?vT148) rfl rfl (by kernel_rfl) (by kernel_rfl) (by kernel_rfl) (fun _ _ _ h => h) (Or.inl ⟨by rfl, ?hyT148⟩) ?rstT148
                            case hyT148 => (intro w; go_simp; (try with_reducible rfl))
                            try simp only [Act.put, List.setIfInBounds_toArray, List.set_cons_zero, List.set_cons_succ]
                            refine takeA (i := 14) (d := some 56) (v := ?vT149) rfl rfl (by kernel_rfl) (by kernel_rfl) (by kernel_rfl) (fun _ _ _ h => h) (Or.inl ⟨by rfl, ?hyT149⟩) ?rstT149
                            case hyT149 => (intro w; go_simp; (try with_reducible rfl))
                            try simp only [Act.put, List.setIfInBounds_toArray, List.set_cons_zero, List.set_cons_succ]
                            refine wpAny_ready (rs := [15]) (by kernel_rfl) (by simp) (consS rfl (fun K hK => ?b150) AllReady.nil)
                            case b150 =>
                              go_simp
                              refine hK.out _ _ ?_
                              clear hK K
                              try simp only [Act.put, List.setIfInBounds_toArray, List.set_cons_zero, List.set_cons_succ]
                              refine wpAny_done (by kernel_rfl) ?_ _
                              go_wp2_with fail
                              go_end0
                              exact ⟨rfl, HE.out⟩
                  case b176 =>
                    go_simp
                    refine hK.out _ _ ?_
                    clear hK K
                    try simp only [Act.put, List.setIfInBounds_toArray, List.set_cons_zero, List.set_cons_succ]
                    refine wpAny_ready (rs := [4, 10]) (by kernel_rfl) (by simp) (consS rfl (fun K hK => ?b173) (consS rfl (fun K hK => ?b174) AllReady.nil))
                    case b173 =>
                      go_simp
                      refine hK.out _ _ ?_
                      clear hK K
                      try simp only [Act.put, List.setIfInBounds_toArray, List.set_cons_zero, List.set_cons_succ]
                      refine wpAny_ready (rs := [10]) (by kernel_rfl) (by simp) (consS rfl (fun K hK => ?b160) AllReady.nil)
                      case b160 =>
                        rw [if_pos (by rfl)]
                        refine wp_append_hr (.tmp 48) (.tmp 51) 56 (some 52) rfl rfl _ _ rfl rfl hs1 ?_
                        refine hK.out _ _ ?_
                        clear hK K
                        try simp only [Act.put, List.setIfInBounds_toArray, List.set_cons_zero, List.set_cons_succ]
                        refine wpAny_ready (rs := [11]) (by kernel_rfl) (by simp) (consS rfl (fun K hK => ?b159) AllReady.nil)
                        case b159 =>
                          go_simp
                          refine hK.out _ _ ?_
                          clear hK K
                          try simp only [Act.put, List.setIfInBounds_toArray, List.set_cons_zero, List.set_cons_succ]
                          refine wpAny_ready (rs := [12]) (by kernel_rfl) (by simp) (consS rfl (fun K hK => ?b158) AllReady.nil)
                          case b158 =>
                            rw [if_pos (by rfl)]
                            refine wp_append_hr (.tmp 46) (.tmp 53) 26 (some 54) rfl rfl _ _ rfl rfl hs2 ?_
                            refine hK.out _ _ ?_
                            clear hK K
                            try simp only [Act.put, List.setIfInBounds_toArray, List.set_cons_zero, List.set_cons_succ]
                            refine takeA (i := 13) (d := some 55) (v := ?vT155) rfl rfl (by kernel_rfl) (by kernel_rfl) (by kernel_rfl) (fun _ _ _ h => h) (Or.inl ⟨by rfl, ?hyT155⟩) ?rstT155
                            case hyT155 => (intro w; go_simp; (try with_reducible rfl))
                            try simp only [Act.put, List.setIfInBounds_toArray, List.set_cons_zero, List.set_cons_succ]
                            refine takeA (i := 14) (d := some 56) (v := ?vT156) rfl rfl (by kernel_rfl) (by kernel_rfl) (by kernel_rfl) (fun _ _ _ h => h) (Or.inl ⟨by rfl, ?hyT156⟩) ?rstT156
                            case hyT156 => (intro w; go_simp; (try with_reducible rfl))
                            try simp only [Act.put, List.setIfInBounds_toArray, List.set_cons_zero, List.set_cons_succ]
                            refine wpAny_ready (rs := [15]) (by kernel_rfl) (by simp) (consS rfl (fun K hK => ?b157) AllReady.nil)
                            case b157 =>
                              go_simp
                              refine hK.out _ _ ?_
                              clear hK K
                              try simp only [Act.put, List.setIfInBounds_toArray, List.set_cons_zero, List.set_cons_succ]
                              refine wpAny_done (by kernel_rfl) ?_ _
                              go_wp2_with fail
                              go_end0
                              exact ⟨rfl, HE.out⟩
                    case b174 =>
                      rw [if_pos (by rfl)]
                      refine wp_append_hr (.tmp 48) (.tmp 51) 56 (some 52) rfl rfl _ _ rfl rfl hs1 ?_
                      refine hK.out _ _ ?_
                      clear hK K
                      try simp only [Act.put, List.setIfInBounds_toArray, List.set_cons_zero, List.set_cons_succ]
                      refine wpAny_ready (rs := [4, 11]) (by kernel_rfl) (by simp) (consS rfl (fun K hK => ?b171) (consS rfl (fun K hK => ?b172) AllReady.nil))
                      case b171 =>
                        go_simp
                        refine hK.out _ _ ?_
                        clear hK K
                        try simp only [Act.put, List.setIfInBounds_toArray, List.set_cons_zero, List.set_cons_succ]
                        refine wpAny_ready (rs := [11]) (by kernel_rfl) (by simp) (consS rfl (fun K hK => ?b165) AllReady.nil)
                        case b165 =>
                          go_simp
                          refine hK.out _ _ ?_
                          clear hK K
                          try simp only [Act.put, List.setIfInBounds_toArray, List.set_cons_zero, List.set_cons_succ]
                          refine wpAny_ready (rs := [12]) (by kernel_rfl) (by simp) (consS rfl (fun K hK => ?b164) AllReady.nil)
                          case b164 =>
                            rw [if_pos (by rfl)]
                            refine wp_append_hr (.tmp 46) (.tmp 53) 26 (some 54) rfl rfl _ _ rfl rfl hs2 ?_
                            refine hK.out _ _ ?_
                            clear hK K
                            try simp only [Act.put, List.setIfInBounds_toArray, List.set_cons_zero, List.set_cons_succ]
                            refine takeA (i := 13) (d := some 55) (v := ?vT161) rfl rfl (by kernel_rfl) (by kernel_rfl) (by kernel_rfl) (fun _ _ _ h => h) (Or.inl ⟨by rfl, ?hyT161⟩) ?rstT161
                            case hyT161 => (intro w; go_simp; (try with_reducible rfl))
                            try simp only [Act.put, List.setIfInBounds_toArray, List.set_cons_zero, List.set_cons_succ]
                            refine takeA (i := 14) (d := some 56) (v := ?vT162) rfl rfl (by kernel_rfl) (by kernel_rfl) (by kernel_rfl) (fun _ _ _ h => h) (Or.inl ⟨by rfl, ?hyT162⟩) ?rstT162
                            case hyT162 => (intro w; go_simp; (try with_reducible rfl))
                            try simp only [Act.put, List.setIfInBounds_toArray, List.set_cons_zero, List.set_cons_succ]
                            refine wpAny_ready (rs := [15]) (by kernel_rfl) (by simp) (consS rfl (fun K hK => ?b163) AllReady.nil)
                            case b163 =>
                              go_simp
                              refine hK.out _ _ ?_
                              clear hK K
                              try simp only [Act.put, List.setIfInBounds_toArray, List.set_cons_zero, List.set_cons_succ]
                              refine wpAny_done (by kernel_rfl) ?_ _
                              go_wp2_with fail
                              go_end0
                              exact ⟨rfl, HE.out⟩
                      case b172 =>
                        go_simp
                        refine hK.out _ _ ?_
                        clear hK K
                        try simp only [Act.put, List.setIfInBounds_toArray, List.set_cons_zero, List.set_cons_succ]
                        refine wpAny_ready (rs := [4]) (by kernel_rfl) (by simp) (consS rfl (fun K hK => ?b170) AllReady.nil)
                        case b170 =>
                          go_simp
                          refine hK.out _ _ ?_
                          clear hK K
                          try simp only [Act.put, List.setIfInBounds_toArray, List.set_cons_zero, List.set_cons_succ]
                          refine wpAny_ready (rs := [12]) (by kernel_rfl) (by simp) (consS rfl (fun K hK => ?b169) AllReady.nil)
                          case b169 =>
                            rw [if_pos (by rfl)]
                            refine wp_append_hr (.tmp 46) (.tmp 53) 26 (some 54) rfl rfl _ _ rfl rfl hs2 ?_
                            refine hK.out _ _ ?_
                            clear hK K
                            try simp only [Act.put, List.setIfInBounds_toArray, List.set_cons_zero, List.set_cons_succ]
                            refine takeA (i := 13) (d := some 55) (v := ?vT166) rfl rfl (by kernel_rfl) (by kernel_rfl) (by kernel_rfl) (fun _ _ _ h => h) (Or.inl ⟨by rfl, ?hyT166⟩) ?rstT166
                            case hyT166 => (intro w; go_simp; (try with_reducible rfl))
                            try simp only [Act.put, List.setIfInBounds_toArray, List.set_cons_zero, List.set_cons_succ]
                            refine takeA (i := 14) (d := some 56) (v := ?vT167) rfl rfl (by kernel_rfl) (by kernel_rfl) (by kernel_rfl) (fun _ _ _ h => h) (Or.inl ⟨by rfl, ?hyT167⟩) ?rstT167
                            case hyT167 => (intro w; go_simp; (try with_reducible rfl))
                            try simp only [Act.put, List.setIfInBounds_toArray, List.set_cons_zero, List.set_cons_succ]
                            refine wpAny_ready (rs := [15]) (by kernel_rfl) (by simp) (consS rfl (fun K hK => ?b168) AllReady.nil)
                            case b168 =>
                              go_simp
                              refine hK.out _ _ ?_
                              clear hK K
                              try simp only [Act.put, List.setIfInBounds_toArray, List.set_cons_zero, List.set_cons_succ]
                              refine wpAny_done (by kernel_rfl) ?_ _
                              go_wp2_with fail
                              go_end0
                              exact ⟨rfl, HE.out⟩
end Go.Proofs.Ytchkeckblpmehaa
