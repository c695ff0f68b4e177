import Derived.Test.YtkdhcokefnffaaaDoorMcD
/-! MsgCut. -/
namespace Go.Proofs.YtkdhcokefnffaaaDoor
open Go.RowKit Go.Lib Sp
set_option maxRecDepth 100000

theorem wp_append_hr {P : Program} {w : World} {o : Oper} {a : Act} {K : Act → World → Prop} {Q : Exit → Act → World → Prop} (s x : Operand) (t : TypeId) (d : Option Nat) (hd : o.dst = d)
    (ho : o.op = .call { callee := .builtin .append, args := #[s, x], argTypes := #[t, t] }) (v u : Value) (hs : a.eval s = v) (hx : a.eval x = u) {v' : Value} {w' : World}
    (hr : (Builtin.append_ #[t, t] o.type #[v, u]).run P w = .ok v' w') (h : K (a.put d v') w') : Oper.wp P o a w K Q := by
  subst hd
  unfold Oper.wp execOp
  simp only [ho, resolve, invoke, builtin, Sem.run_bind, Sem.run_pure, Result.andThen_ok, List.map_toArray, List.map_cons, List.map_nil, hs, hx, hr]
  exact h

set_option maxHeartbeats 16000000 in
theorem msgCut_any {w : World} (hw : Bar w) {ta pa : Option Addr} {tn tc pn pc : Nat} {zs ys : List Int} (ht : Rw rune1 1 w ta tn tc zs) (hp : Rw int1 1 w pa pn pc ys) (hpn : pn ≤ 9223372036854775807) (f0 f1 f2 f3 f4 f5 f6 f7 f8 : Int) (f9 : Nat) (h9 : f9 < 256) (on : Bool) :
    Calls Tryd.prog 5 #[.agg #[.int .i64 f0, .int .i64 f1, .int .i64 f2, .int .i64 f3, .int .i64 f4, .int .i64 f5, .int .i64 f6, .int .i64 f7, .slice ta tn tc, .slice pa pn pc, .bool on, .int .i64 f8, .int .u8 (f9 : Int)]] w fun e w' => e = .returned (.bool true) ∧ Below w.heap.size w w' := by
  obtain ⟨wa, ewa⟩ : ∃ W, w.alloc (.cells #[.int .i64 f0, .int .i64 f1, .int .i64 f2, .int .i64 f3, .int .i64 f4, .int .i64 f5, .int .i64 f6, .int .i64 f7, .slice ta tn tc, .slice pa pn pc, .bool on, .int .i64 f8, .int .u8 (f9 : Int)] 26) = W := ⟨_, rfl⟩
  have hb0 : Below w.heap.size w wa := ewa ▸ (Below.refl _ _).alloc (Nat.le_refl _) _
  have hT : wa.heap[w.heap.size]? = some (.cells #[.int .i64 f0, .int .i64 f1, .int .i64 f2, .int .i64 f3, .int .i64 f4, .int .i64 f5, .int .i64 f6, .int .i64 f7, .slice ta tn tc, .slice pa pn pc, .bool on, .int .i64 f8, .int .u8 (f9 : Int)] 26) := ewa ▸ heap_alloc_new _ _
  have HM := messageS (ht.below hb0) (hp.below hb0) hpn f0 f1 f2 f3 f4 f5 f6 f7 f8 (f9 : Int) on
  have HB0 : Hid (Below w.heap.size w wa) := hb0
  obtain ⟨t0, t1, t2, t3, t4, t5, t6, t7, t8, t9, t10, t11, t12⟩ := box13 hT
  have HT : Hid (wa.heap[w.heap.size]? = some (.cells #[.int .i64 f0, .int .i64 f1, .int .i64 f2, .int .i64 f3, .int .i64 f4, .int .i64 f5, .int .i64 f6, .int .i64 f7, .slice ta tn tc, .slice pa pn pc, .bool on, .int .i64 f8, .int .u8 (f9 : Int)] 26)) := hT
  clear hT hb0
  go_enter Tryd.func5, Tryd.ntmps5
  go_wp2_with fail
  refine HM.mono ?_
  rintro e w1 ⟨y, b, m, cp, rfl, hy, hm, hb1⟩
  clear HM t0 t1 t2 t3 t4 t5 t6 t7 t8 t9 t10 t11 t12
  have hT1 := (hb1.block _ (Array.getElem?_eq_some_iff.1 HT.out).1).trans HT.out
  have hbw1 : Below w.heap.size w w1 := HB0.out.trans (hb1.mono HB0.out.size)
  have HWE : Hid (Bar w1) := hw.below hbw1
  have HE := encodeS hy HWE.out hm
  have HY : Hid ((y.enc.length ≤ 30000 ∧ 1 ≤ y.enc.length) ∧ ∀ b ∈ y.enc, b < 256) := ⟨by have := Ms.size hy; omega, Ms.byte hy⟩
  have HD : Hid (∀ (W : World) (n cap : Nat) (a : Option Addr) (bs : List Nat), Bar W → Rw byV 1 W a n cap bs → (∀ g, a = some g → g.block < W.heap.size) → (∀ x ∈ bs, x < 256) → Agr bs y.enc → n ≠ y.enc.length → Calls Tryd.prog 9 #[.slice a n cap] W fun e w' => EndsV zeroV n y.enc.length e ∧ Below W.heap.size W w') := fun W n cap a bs h1 h2 h3 h4 h5 h6 => decodeS hy h1 h2 h3 h4 h5 h6
  have HB1 : Hid (Below w.heap.size w w1 ∧ w1.heap[w.heap.size]? = some (.cells #[.int .i64 f0, .int .i64 f1, .int .i64 f2, .int .i64 f3, .int .i64 f4, .int .i64 f5, .int .i64 f6, .int .i64 f7, .slice ta tn tc, .slice pa pn pc, .bool on, .int .i64 f8, .int .u8 (f9 : Int)] 26)) := ⟨hbw1, hT1⟩
  clear hT1 hbw1 hb1 HB0 HT HWE hy hm
  revert HE HY HD
  generalize y.enc = E
  generalize y.val (.slice b m cp) = V
  intro HE HY HD
  go_wp2_with fail
  refine HE.mono ?_
  rintro e w2 ⟨v', rfl, ho, hb2⟩
  clear HE
  obtain ⟨a, cap, hv⟩ := ho.shape
  subst hv
  obtain ⟨⟨hL1, hL2⟩, hEb⟩ := HY.out
  obtain ⟨L, hL⟩ : ∃ L, E.length = L := ⟨_, rfl⟩
  rw [hL] at ho hL1 hL2 ⊢
  have hrow := ho.rw_ layB
  have hroom := hrow.room
  have halt : ∀ g, a = some g → g.block < w2.heap.size := fun g e => by subst e; exact ho.lt rfl
  have hs1 := HB1.out.1.size
  have hs2 := hb2.size
  have hT2 := (hb2.block _ (Array.getElem?_eq_some_iff.1 HB1.out.2).1).trans HB1.out.2
  have hbw2 : Below w.heap.size w w2 := HB1.out.1.trans (hb2.mono HB1.out.1.size)
  have HR : Hid (Rw byV 1 w2 a L cap E ∧ (∀ g, a = some g → g.block < w2.heap.size) ∧ (∀ b ∈ E, b < 256) ∧ E.length = L ∧ Below w.heap.size w w2 ∧ w2.heap[w.heap.size]? = some (.cells #[.int .i64 f0, .int .i64 f1, .int .i64 f2, .int .i64 f3, .int .i64 f4, .int .i64 f5, .int .i64 f6, .int .i64 f7, .slice ta tn tc, .slice pa pn pc, .bool on, .int .i64 f8, .int .u8 (f9 : Int)] 26) ∧ (L ≤ cap ∧ cap ≤ maxLen)) := ⟨hrow, halt, hEb, hL, hbw2, hT2, hroom⟩
  obtain ⟨t0, t1, t2, t3, t4, t5, t6, t7, t8, t9, t10, t11, t12⟩ := box13 hT2
  have n0 : ((L : Int) == 0) = false := beq_eq_false_iff_ne.2 (by omega)
  have n1 : ¬ L = 0 := by omega
  have HP := fun w => pick_any f8 (L : Int) (by omega) (by omega) w
  clear hb2 ho hrow halt hEb hL hs1 hs2 hT2 hbw2 hroom HB1 HY
  go_wp2_with fail
  refine (HP _).mono ?_
  rintro e wz ⟨z, rfl, hz, hwz⟩
  subst hwz
  clear HP t0 t1 t2 t3 t4 t5 t6 t7 t8 t9 t10 t11 t12
  have hzL : z < L := by omega
  obtain ⟨hrow, halt, hEb, hL, hbw2, hT2, hroom⟩ := HR.out
  have CF : ∀ W : World, (Instr.slice 39 (.slice a L cap) none (some (.int .i64 (z : Int))) (some (.int .i64 (z : Int)))).run Tryd.prog W = .ok (.slice a z z) W := fun W => cut_full W a L cap z (by omega)
  have HD1 := HD.out _ z z a (E.take z) (hw.below hbw2) ((hrow.take z (by omega)).recap z (Nat.le_refl _) (by simp only [maxLen]; omega)) halt (fun x hx => hEb x (List.mem_of_mem_take hx)) (agr_take E z) (by omega)
  rw [hL] at HD1
  clear hrow halt hEb hL hbw2 hT2 hroom hz
  go_wp2_with fail
  refine HD1.mono ?_
  rintro e w3 ⟨hends, hb3⟩
  clear HD1 CF
  rcases hends with ⟨_, rfl⟩ | ⟨hc, rfl⟩
  case inr => omega
  unfold zeroV
  go_wp2_with fail
  obtain ⟨hrow, halt, hEb, hL, hbw2, hT2, hroom⟩ := HR.out
  clear HR
  obtain ⟨X, eX⟩ : ∃ W, w3.alloc (.cells #[.int .i64 0, .int .i64 0, .int .i64 0, .int .i64 0, .int .i64 0, .int .i64 0, .int .i64 0, .int .i64 0, .string ⟨#[]⟩, .slice none 0 0, .int .i64 0, .int .i64 0, .bool false] 37) = W := ⟨_, rfl⟩
  have hbX : Below wz.heap.size wz X := eX ▸ hb3.alloc hb3.size _
  have hrX := hrow.below hbX
  have hTX := (hbX.block _ (Array.getElem?_eq_some_iff.1 hT2).1).trans hT2
  have hbwX : Below w.heap.size w X := hbw2.trans (hbX.mono hbw2.size)
  have haX : ∀ g, a = some g → g.block < X.heap.size := fun g e => by have := halt g e; have := hbX.size; omega
  have hTl := (Array.getElem?_eq_some_iff.1 hTX).1
  obtain ⟨cap', w4, hr, hrow4, hb4, hs4⟩ := append_full (w := X.drew) (a := a) (n := L) ((hrX.recap L (Nat.le_refl _) (by simp only [maxLen]; omega)).below ((Below.refl _ _).drew)) (by omega) (by omega) f9
  have hb4' : Below X.heap.size X w4 := ((Below.refl _ _).drew).trans hb4
  have CF : ∀ W : World, (Instr.slice 39 (.slice a L cap) none (some (.int .i64 (L : Int))) (some (.int .i64 (L : Int)))).run Tryd.prog W = .ok (.slice a L L) W := fun W => cut_full W a L cap L (by omega)
  obtain ⟨t0, t1, t2, t3, t4, t5, t6, t7, t8, t9, t10, t11, t12⟩ := box13 hTX
  have HR : Hid ((∀ b ∈ E, b < 256) ∧ E.length = L ∧ Below w.heap.size w X ∧ X.heap[w.heap.size]? = some (.cells #[.int .i64 f0, .int .i64 f1, .int .i64 f2, .int .i64 f3, .int .i64 f4, .int .i64 f5, .int .i64 f6, .int .i64 f7, .slice ta tn tc, .slice pa pn pc, .bool on, .int .i64 f8, .int .u8 (f9 : Int)] 26)) := ⟨hEb, hL, hbwX, hTX⟩
  clear hrow halt hEb hL hbw2 hT2 hroom hb3 hbX hrX hTX hbwX haX hb4
  rw [eX]
  refine wp_region_held_drew (S := (fun W => ∀ q : Addr, q.block < X.heap.size → W.cell? q = X.cell? q)) (by kernel_rfl) ?hS1 (fun hHeld => ?rest1)
  case hS1 => (intro q hq; first | rfl | exact cell_alloc_lt _ _ q hq)
  refine takeD (i := 0) (d := some 42) (v := ?vT2) rfl rfl (by kernel_rfl) (by kernel_rfl) (by kernel_rfl) (fun _ _ _ h => h) (Or.inl ⟨by rfl, ?hyT2⟩) (by assumption) ?rstT2
  case hyT2 => (intro w hSw; (try dsimp only at hSw); go_simp; (try with_reducible rfl))
  try simp only [Act.put, List.setIfInBounds_toArray, List.set_cons_zero, List.set_cons_succ]
  refine takeD (i := 1) (d := some 43) (v := ?vT3) rfl rfl (by kernel_rfl) (by kernel_rfl) (by kernel_rfl) (fun _ _ _ h => h) (Or.inl ⟨by rfl, ?hyT3⟩) (by assumption) ?rstT3
  case hyT3 => (intro w hSw; (try dsimp only at hSw); go_simp; (try with_reducible rfl))
  try simp only [Act.put, List.setIfInBounds_toArray, List.set_cons_zero, List.set_cons_succ]
  refine takeD (i := 2) (d := some 44) (v := ?vT4) rfl rfl (by kernel_rfl) (by kernel_rfl) (by kernel_rfl) (fun _ _ _ h => h) (Or.inl ⟨by rfl, ?hyT4⟩) (by assumption) ?rstT4
  case hyT4 => (intro w hSw; (try dsimp only at hSw); go_simp; (try with_reducible rfl))
  try simp only [Act.put, List.setIfInBounds_toArray, List.set_cons_zero, List.set_cons_succ]
  refine takeD (i := 3) (d := some 45) (v := ?vT5) rfl rfl (by kernel_rfl) (by kernel_rfl) (by kernel_rfl) (fun _ _ _ h => h) (Or.inl ⟨by rfl, ?hyT5⟩) (by assumption) ?rstT5
  case hyT5 => (intro w hSw; (try dsimp only at hSw); go_simp; (try with_reducible rfl))
  try simp only [Act.put, List.setIfInBounds_toArray, List.set_cons_zero, List.set_cons_succ]
  refine takeD (i := 4) (d := some 46) (v := ?vT6) rfl rfl (by kernel_rfl) (by kernel_rfl) (by kernel_rfl) (fun _ _ _ h => h) (Or.inl ⟨by rfl, ?hyT6⟩) (by assumption) ?rstT6
  case hyT6 => (intro w hSw; (try dsimp only at hSw); go_simp; (try with_reducible rfl))
  try simp only [Act.put, List.setIfInBounds_toArray, List.set_cons_zero, List.set_cons_succ]
  refine takeD (i := 5) (d := some 47) (v := ?vT7) rfl rfl (by kernel_rfl) (by kernel_rfl) (by kernel_rfl) (fun _ _ _ h => h) (Or.inl ⟨by rfl, ?hyT7⟩) (by assumption) ?rstT7
  case hyT7 => (intro w hSw; (try dsimp only at hSw); go_simp; (try with_reducible rfl))
  try simp only [Act.put, List.setIfInBounds_toArray, List.set_cons_zero, List.set_cons_succ]
  refine takeD (i := 6) (d := some 48) (v := ?vT8) rfl rfl (by kernel_rfl) (by kernel_rfl) (by kernel_rfl) (fun _ _ _ h => h) (Or.inl ⟨by rfl, ?hyT8⟩) (by assumption) ?rstT8
  case hyT8 => (intro w hSw; (try dsimp only at hSw); go_simp; (try with_reducible rfl))
  try simp only [Act.put, List.setIfInBounds_toArray, List.set_cons_zero, List.set_cons_succ]
  refine takeD (i := 7) (d := some 49) (v := ?vT9) rfl rfl (by kernel_rfl) (by kernel_rfl) (by kernel_rfl) (fun _ _ _ h => h) (Or.inl ⟨by rfl, ?hyT9⟩) (by assumption) ?rstT9
  case hyT9 => (intro w hSw; (try dsimp only at hSw); go_simp; (try with_reducible rfl))
  try simp only [Act.put, List.setIfInBounds_toArray, List.set_cons_zero, List.set_cons_succ]
  refine wpAnyH_ready (rs := [8]) (by kernel_rfl) (by simp) ?_
  refine AllReadyH.cons rfl (fun K hK => ?_) AllReadyH.nil
  go_simp
  clear hHeld
  refine hK.out _ _ ?hS10 (fun hHeld => ?rest10)
  case hS10 => (intro q hq; first | rfl | exact cell_alloc_lt _ _ q hq)
  clear hK K
  try simp only [Act.put, List.setIfInBounds_toArray, List.set_cons_zero, List.set_cons_succ]
  refine wpAnyH_ready (rs := [9]) (by kernel_rfl) (by simp) ?_
  refine AllReadyH.cons rfl (fun K hK => ?_) AllReadyH.nil
  rw [if_pos (by rfl)]
  refine wp_append_hr (.tmp 47) (.tmp 50) 39 (some 51) rfl rfl _ _ rfl rfl hr ?_
  clear hHeld
  refine hK.out _ _ ?hS11 (fun hHeld => ?rest11)
  case hS11 => (intro q hq; exact hb4'.cell hq)
  clear hK K
  try simp only [Act.put, List.setIfInBounds_toArray, List.set_cons_zero, List.set_cons_succ]
  refine takeD (i := 10) (d := some 9) (v := ?vT12) rfl rfl (by kernel_rfl) (by kernel_rfl) (by kernel_rfl) (fun _ _ _ h => h) (Or.inl ⟨by rfl, ?hyT12⟩) (by assumption) ?rstT12
  case hyT12 => (intro w hSw; (try dsimp only at hSw); go_simp; (try with_reducible rfl))
  try simp only [Act.put, List.setIfInBounds_toArray, List.set_cons_zero, List.set_cons_succ]
  refine wpAnyH_done (by kernel_rfl) ?_ _
  clear hHeld CF hr t0 t1 t2 t3 t4 t5 t6 t7 t8 t9 t10 t11 t12
  obtain ⟨hEb, hL, hbwX, hTX⟩ := HR.out
  clear HR
  have hbw4 : Below w.heap.size w w4 := hbwX.trans (hb4'.mono hbwX.size)
  have hT4 := (hb4'.block _ hTl).trans hTX
  have HD2 := HD.out _ (L + 1) cap' (some ⟨X.drew.heap.size + 1, 0, none⟩) (E ++ [f9]) (hw.below hbw4) hrow4 (fun g e => by cases e; exact hs4) (app_byte hEb (by simpa using h9)) (agr_more E [f9]) (by omega)
  rw [hL] at HD2
  have HR : Hid (Below w.heap.size w w4 ∧ w4.heap[w.heap.size]? = some (.cells #[.int .i64 f0, .int .i64 f1, .int .i64 f2, .int .i64 f3, .int .i64 f4, .int .i64 f5, .int .i64 f6, .int .i64 f7, .slice ta tn tc, .slice pa pn pc, .bool on, .int .i64 f8, .int .u8 (f9 : Int)] 26)) := ⟨hbw4, hT4⟩
  clear hEb hL hbwX hTX hb4' hrow4 hs4 hbw4 hT4 HD hTl
  go_wp2_with fail
  refine HD2.mono ?_
  rintro e w5 ⟨hends, hb5⟩
  clear HD2
  rcases hends with ⟨hc, rfl⟩ | ⟨_, rfl⟩
  case inl => omega
  unfold zeroV
  have hb0 : Below w.heap.size w (w5.alloc (.cells #[.int .i64 0, .int .i64 0, .int .i64 0, .int .i64 0, .int .i64 0, .int .i64 0, .int .i64 0, .int .i64 0, .string ⟨#[]⟩, .slice none 0 0, .int .i64 0, .int .i64 0, .bool false] 37)) := (HR.out.1.trans (hb5.mono HR.out.1.size)).alloc (HR.out.1.trans (hb5.mono HR.out.1.size)).size _
  have hT5 := (hb5.block _ (Array.getElem?_eq_some_iff.1 HR.out.2).1).trans HR.out.2
  obtain ⟨wq, ewq⟩ : ∃ W, w5.alloc (.cells #[.int .i64 0, .int .i64 0, .int .i64 0, .int .i64 0, .int .i64 0, .int .i64 0, .int .i64 0, .int .i64 0, .string ⟨#[]⟩, .slice none 0 0, .int .i64 0, .int .i64 0, .bool false] 37) = W := ⟨_, rfl⟩
  have hT : wq.heap[w.heap.size]? = some (.cells #[.int .i64 f0, .int .i64 f1, .int .i64 f2, .int .i64 f3, .int .i64 f4, .int .i64 f5, .int .i64 f6, .int .i64 f7, .slice ta tn tc, .slice pa pn pc, .bool on, .int .i64 f8, .int .u8 (f9 : Int)] 26) := by rw [← ewq, Below.heap_alloc _ _ _ (Array.getElem?_eq_some_iff.1 hT5).1]; exact hT5
  obtain ⟨t0, t1, t2, t3, t4, t5, t6, t7, t8, t9, t10, t11, t12⟩ := box13 hT5
  have hl5 : w.heap.size < w5.heap.size := (Array.getElem?_eq_some_iff.1 hT5).1
  rw [ewq] at hb0
  clear eX
  have HQ : Hid (w5.alloc (.cells #[.int .i64 0, .int .i64 0, .int .i64 0, .int .i64 0, .int .i64 0, .int .i64 0, .int .i64 0, .int .i64 0, .string ⟨#[]⟩, .slice none 0 0, .int .i64 0, .int .i64 0, .bool false] 37) = wq) := ewq
  clear ewq hT5 hb5 HR
  go_wp2_with fail
  rw [HQ.out]
  clear HQ n0 n1 hzL hL1 hL2 hl5 t0 t1 t2 t3 t4 t5 t6 t7 t8 t9 t10 t11 t12
  have HM := commandS (ht.below hb0) (hp.below hb0) hpn f0 f1 f2 f3 f4 f5 f6 f7 f8 (f9 : Int) on
  have HB0 : Hid (Below w.heap.size w wq) := hb0
  obtain ⟨t0, t1, t2, t3, t4, t5, t6, t7, t8, t9, t10, t11, t12⟩ := box13 hT
  have HT : Hid (wq.heap[w.heap.size]? = some (.cells #[.int .i64 f0, .int .i64 f1, .int .i64 f2, .int .i64 f3, .int .i64 f4, .int .i64 f5, .int .i64 f6, .int .i64 f7, .slice ta tn tc, .slice pa pn pc, .bool on, .int .i64 f8, .int .u8 (f9 : Int)] 26)) := hT
  clear hT hb0
  refine HM.mono ?_
  rintro e v1 ⟨x, b, m, cp, rfl, hy, hm, hml0, hb1⟩
  clear HM t0 t1 t2 t3 t4 t5 t6 t7 t8 t9 t10 t11 t12
  have hT1 := (hb1.block _ (Array.getElem?_eq_some_iff.1 HT.out).1).trans HT.out
  have hbw1 : Below w.heap.size w v1 := HB0.out.trans (hb1.mono HB0.out.size)
  have HWE : Hid (Bar v1) := hw.below hbw1
  have hml : ∀ g, b = some g → g.block < v1.heap.size := fun g e => (hml0 g e).2
  have HE := encodeOp_any hy HWE.out hm hml
  have HY : Hid ((x.enc.length ≤ 30000 ∧ 1 ≤ x.enc.length) ∧ ∀ b ∈ x.enc, b < 256) := ⟨by have := Cm.size hy; omega, Cm.byte hy⟩
  have HD : Hid (∀ (W : World) (n cap : Nat) (a : Option Addr) (bs : List Nat), Bar W → Rw byV 1 W a n cap bs → (∀ g, a = some g → g.block < W.heap.size) → (∀ x ∈ bs, x < 256) → Agr bs x.enc → n ≠ x.enc.length → Calls Tryd.prog 14 #[.slice a n cap] W fun e w' => EndsV zeroO n x.enc.length e ∧ Below W.heap.size W w') := fun W n cap a bs h1 h2 h3 h4 h5 h6 => decodeOpS hy h1 h2 h3 h4 h5 h6
  have HB1 : Hid (Below w.heap.size w v1 ∧ v1.heap[w.heap.size]? = some (.cells #[.int .i64 f0, .int .i64 f1, .int .i64 f2, .int .i64 f3, .int .i64 f4, .int .i64 f5, .int .i64 f6, .int .i64 f7, .slice ta tn tc, .slice pa pn pc, .bool on, .int .i64 f8, .int .u8 (f9 : Int)] 26)) := ⟨hbw1, hT1⟩
  clear hT1 hbw1 hb1 HB0 HT HWE hy hm hml hml0
  revert HE HY HD
  generalize x.enc = E
  generalize opVal x.op (.slice b m cp) = V
  intro HE HY HD
  go_wp2_with fail
  refine HE.mono ?_
  rintro e v2 ⟨v', rfl, ho, hb2⟩
  clear HE
  obtain ⟨a, cap, hv⟩ := ho.shape
  subst hv
  obtain ⟨⟨hL1, hL2⟩, hEb⟩ := HY.out
  obtain ⟨L, hL⟩ : ∃ L, E.length = L := ⟨_, rfl⟩
  rw [hL] at ho hL1 hL2 ⊢
  have hrow := ho.rw_ layB
  have hroom := hrow.room
  have halt : ∀ g, a = some g → g.block < v2.heap.size := fun g e => by subst e; exact ho.lt rfl
  have hs1 := HB1.out.1.size
  have hs2 := hb2.size
  have hT2 := (hb2.block _ (Array.getElem?_eq_some_iff.1 HB1.out.2).1).trans HB1.out.2
  have hbw2 : Below w.heap.size w v2 := HB1.out.1.trans (hb2.mono HB1.out.1.size)
  have HR : Hid (Rw byV 1 v2 a L cap E ∧ (∀ g, a = some g → g.block < v2.heap.size) ∧ (∀ b ∈ E, b < 256) ∧ E.length = L ∧ Below w.heap.size w v2 ∧ v2.heap[w.heap.size]? = some (.cells #[.int .i64 f0, .int .i64 f1, .int .i64 f2, .int .i64 f3, .int .i64 f4, .int .i64 f5, .int .i64 f6, .int .i64 f7, .slice ta tn tc, .slice pa pn pc, .bool on, .int .i64 f8, .int .u8 (f9 : Int)] 26) ∧ (L ≤ cap ∧ cap ≤ maxLen)) := ⟨hrow, halt, hEb, hL, hbw2, hT2, hroom⟩
  obtain ⟨t0, t1, t2, t3, t4, t5, t6, t7, t8, t9, t10, t11, t12⟩ := box13 hT2
  have n0 : ((L : Int) == 0) = false := beq_eq_false_iff_ne.2 (by omega)
  have n1 : ¬ L = 0 := by omega
  have HP := fun w => pick_any f8 (L : Int) (by omega) (by omega) w
  clear hb2 ho hrow halt hEb hL hs1 hs2 hT2 hbw2 hroom HB1 HY
  go_wp2_with fail
  refine (HP _).mono ?_
  rintro e wz ⟨z, rfl, hz, hwz⟩
  subst hwz
  clear HP t0 t1 t2 t3 t4 t5 t6 t7 t8 t9 t10 t11 t12
  have hzL : z < L := by omega
  obtain ⟨hrow, halt, hEb, hL, hbw2, hT2, hroom⟩ := HR.out
  have CF : ∀ W : World, (Instr.slice 39 (.slice a L cap) none (some (.int .i64 (z : Int))) (some (.int .i64 (z : Int)))).run Tryd.prog W = .ok (.slice a z z) W := fun W => cut_full W a L cap z (by omega)
  have HD1 := HD.out _ z z a (E.take z) (hw.below hbw2) ((hrow.take z (by omega)).recap z (Nat.le_refl _) (by simp only [maxLen]; omega)) halt (fun x hx => hEb x (List.mem_of_mem_take hx)) (agr_take E z) (by omega)
  rw [hL] at HD1
  clear hrow halt hEb hL hbw2 hT2 hroom hz
  go_wp2_with fail
  refine HD1.mono ?_
  rintro e v3 ⟨hends, hb3⟩
  clear HD1 CF
  rcases hends with ⟨_, rfl⟩ | ⟨hc, rfl⟩
  case inr => omega
  unfold zeroO
  go_wp2_with fail
  obtain ⟨hrow, halt, hEb, hL, hbw2, hT2, hroom⟩ := HR.out
  clear HR
  obtain ⟨Z, eZ⟩ : ∃ W, W = v3 := ⟨_, rfl⟩
  subst eZ
  have hbX : Below wz.heap.size wz Z := hb3
  have hrX := hrow.below hbX
  have hTX := (hbX.block _ (Array.getElem?_eq_some_iff.1 hT2).1).trans hT2
  have hbwX : Below w.heap.size w Z := hbw2.trans (hbX.mono hbw2.size)
  have haX : ∀ g, a = some g → g.block < Z.heap.size := fun g e => by have := halt g e; have := hbX.size; omega
  have hTl := (Array.getElem?_eq_some_iff.1 hTX).1
  obtain ⟨cap', v4, hr, hrow4, hb4, hs4⟩ := append_full (w := Z.drew) (a := a) (n := L) ((hrX.recap L (Nat.le_refl _) (by simp only [maxLen]; omega)).below ((Below.refl _ _).drew)) (by omega) (by omega) f9
  have hb4' : Below Z.heap.size Z v4 := ((Below.refl _ _).drew).trans hb4
  have CF : ∀ W : World, (Instr.slice 39 (.slice a L cap) none (some (.int .i64 (L : Int))) (some (.int .i64 (L : Int)))).run Tryd.prog W = .ok (.slice a L L) W := fun W => cut_full W a L cap L (by omega)
  obtain ⟨t0, t1, t2, t3, t4, t5, t6, t7, t8, t9, t10, t11, t12⟩ := box13 hTX
  have HR : Hid ((∀ b ∈ E, b < 256) ∧ E.length = L ∧ Below w.heap.size w Z ∧ Z.heap[w.heap.size]? = some (.cells #[.int .i64 f0, .int .i64 f1, .int .i64 f2, .int .i64 f3, .int .i64 f4, .int .i64 f5, .int .i64 f6, .int .i64 f7, .slice ta tn tc, .slice pa pn pc, .bool on, .int .i64 f8, .int .u8 (f9 : Int)] 26)) := ⟨hEb, hL, hbwX, hTX⟩
  clear hrow halt hEb hL hbw2 hT2 hroom hb3 hbX hrX hTX hbwX haX hb4
  refine wp_region_held_drew (S := (fun W => ∀ q : Addr, q.block < Z.heap.size → W.cell? q = Z.cell? q)) (by kernel_rfl) ?hS13 (fun hHeld => ?rest13)
  case hS13 => (intro q hq; first | rfl | exact cell_alloc_lt _ _ q hq)
  refine takeD (i := 0) (d := some 102) (v := ?vT14) rfl rfl (by kernel_rfl) (by kernel_rfl) (by kernel_rfl) (fun _ _ _ h => h) (Or.inl ⟨by rfl, ?hyT14⟩) (by assumption) ?rstT14
  case hyT14 => (intro w hSw; (try dsimp only at hSw); go_simp; (try with_reducible rfl))
  try simp only [Act.put, List.setIfInBounds_toArray, List.set_cons_zero, List.set_cons_succ]
  refine takeD (i := 1) (d := some 103) (v := ?vT15) rfl rfl (by kernel_rfl) (by kernel_rfl) (by kernel_rfl) (fun _ _ _ h => h) (Or.inl ⟨by rfl, ?hyT15⟩) (by assumption) ?rstT15
  case hyT15 => (intro w hSw; (try dsimp only at hSw); go_simp; (try with_reducible rfl))
  try simp only [Act.put, List.setIfInBounds_toArray, List.set_cons_zero, List.set_cons_succ]
  refine takeD (i := 2) (d := some 104) (v := ?vT16) rfl rfl (by kernel_rfl) (by kernel_rfl) (by kernel_rfl) (fun _ _ _ h => h) (Or.inl ⟨by rfl, ?hyT16⟩) (by assumption) ?rstT16
  case hyT16 => (intro w hSw; (try dsimp only at hSw); go_simp; (try with_reducible rfl))
  try simp only [Act.put, List.setIfInBounds_toArray, List.set_cons_zero, List.set_cons_succ]
  refine takeD (i := 3) (d := some 105) (v := ?vT17) rfl rfl (by kernel_rfl) (by kernel_rfl) (by kernel_rfl) (fun _ _ _ h => h) (Or.inl ⟨by rfl, ?hyT17⟩) (by assumption) ?rstT17
  case hyT17 => (intro w hSw; (try dsimp only at hSw); go_simp; (try with_reducible rfl))
  try simp only [Act.put, List.setIfInBounds_toArray, List.set_cons_zero, List.set_cons_succ]
  refine takeD (i := 4) (d := some 106) (v := ?vT18) rfl rfl (by kernel_rfl) (by kernel_rfl) (by kernel_rfl) (fun _ _ _ h => h) (Or.inl ⟨by rfl, ?hyT18⟩) (by assumption) ?rstT18
  case hyT18 => (intro w hSw; (try dsimp only at hSw); go_simp; (try with_reducible rfl))
  try simp only [Act.put, List.setIfInBounds_toArray, List.set_cons_zero, List.set_cons_succ]
  refine takeD (i := 5) (d := some 107) (v := ?vT19) rfl rfl (by kernel_rfl) (by kernel_rfl) (by kernel_rfl) (fun _ _ _ h => h) (Or.inl ⟨by rfl, ?hyT19⟩) (by assumption) ?rstT19
  case hyT19 => (intro w hSw; (try dsimp only at hSw); go_simp; (try with_reducible rfl))
  try simp only [Act.put, List.setIfInBounds_toArray, List.set_cons_zero, List.set_cons_succ]
  refine takeD (i := 6) (d := some 108) (v := ?vT20) rfl rfl (by kernel_rfl) (by kernel_rfl) (by kernel_rfl) (fun _ _ _ h => h) (Or.inl ⟨by rfl, ?hyT20⟩) (by assumption) ?rstT20
  case hyT20 => (intro w hSw; (try dsimp only at hSw); go_simp; (try with_reducible rfl))
  try simp only [Act.put, List.setIfInBounds_toArray, List.set_cons_zero, List.set_cons_succ]
  refine takeD (i := 7) (d := some 109) (v := ?vT21) rfl rfl (by kernel_rfl) (by kernel_rfl) (by kernel_rfl) (fun _ _ _ h => h) (Or.inl ⟨by rfl, ?hyT21⟩) (by assumption) ?rstT21
  case hyT21 => (intro w hSw; (try dsimp only at hSw); go_simp; (try with_reducible rfl))
  try simp only [Act.put, List.setIfInBounds_toArray, List.set_cons_zero, List.set_cons_succ]
  refine wpAnyH_ready (rs := [8]) (by kernel_rfl) (by simp) ?_
  refine AllReadyH.cons rfl (fun K hK => ?_) AllReadyH.nil
  go_simp
  clear hHeld
  refine hK.out _ _ ?hS22 (fun hHeld => ?rest22)
  case hS22 => (intro q hq; first | rfl | exact cell_alloc_lt _ _ q hq)
  clear hK K
  try simp only [Act.put, List.setIfInBounds_toArray, List.set_cons_zero, List.set_cons_succ]
  refine wpAnyH_ready (rs := [9]) (by kernel_rfl) (by simp) ?_
  refine AllReadyH.cons rfl (fun K hK => ?_) AllReadyH.nil
  rw [if_pos (by rfl)]
  refine wp_append_hr (.tmp 107) (.tmp 110) 39 (some 111) rfl rfl _ _ rfl rfl hr ?_
  clear hHeld
  refine hK.out _ _ ?hS23 (fun hHeld => ?rest23)
  case hS23 => (intro q hq; exact hb4'.cell hq)
  clear hK K
  try simp only [Act.put, List.setIfInBounds_toArray, List.set_cons_zero, List.set_cons_succ]
  refine takeD (i := 10) (d := some 9) (v := ?vT24) rfl rfl (by kernel_rfl) (by kernel_rfl) (by kernel_rfl) (fun _ _ _ h => h) (Or.inl ⟨by rfl, ?hyT24⟩) (by assumption) ?rstT24
  case hyT24 => (intro w hSw; (try dsimp only at hSw); go_simp; (try with_reducible rfl))
  try simp only [Act.put, List.setIfInBounds_toArray, List.set_cons_zero, List.set_cons_succ]
  refine wpAnyH_done (by kernel_rfl) ?_ _
  clear hHeld CF hr t0 t1 t2 t3 t4 t5 t6 t7 t8 t9 t10 t11 t12
  obtain ⟨hEb, hL, hbwX, hTX⟩ := HR.out
  clear HR
  have hbw4 : Below w.heap.size w v4 := hbwX.trans (hb4'.mono hbwX.size)
  have hT4 := (hb4'.block _ hTl).trans hTX
  have HD2 := HD.out _ (L + 1) cap' (some ⟨Z.drew.heap.size + 1, 0, none⟩) (E ++ [f9]) (hw.below hbw4) hrow4 (fun g e => by cases e; exact hs4) (app_byte hEb (by simpa using h9)) (agr_more E [f9]) (by omega)
  rw [hL] at HD2
  have HR : Hid (Below w.heap.size w v4 ∧ v4.heap[w.heap.size]? = some (.cells #[.int .i64 f0, .int .i64 f1, .int .i64 f2, .int .i64 f3, .int .i64 f4, .int .i64 f5, .int .i64 f6, .int .i64 f7, .slice ta tn tc, .slice pa pn pc, .bool on, .int .i64 f8, .int .u8 (f9 : Int)] 26)) := ⟨hbw4, hT4⟩
  clear hEb hL hbwX hTX hb4' hrow4 hs4 hbw4 hT4 HD hTl
  go_wp2_with fail
  refine HD2.mono ?_
  rintro e v5 ⟨hends, hb5⟩
  clear HD2
  rcases hends with ⟨hc, rfl⟩ | ⟨_, rfl⟩
  case inl => omega
  unfold zeroO
  have HF : Hid (Below w.heap.size w v5) := HR.out.1.trans (hb5.mono HR.out.1.size)
  clear hb5 HR
  go_wp2_with fail
  go_ret
  exact ⟨rfl, HF.out⟩
end Go.Proofs.YtkdhcokefnffaaaDoor
