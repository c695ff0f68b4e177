import Derived.Test.YtkdhcokefnffaaaDoorMcB
import Derived.Test.YtkdhcokefnffaaaDoorMaT
import Derived.Test.YtkdhcokefnffaaaDoorMbI
/-! The sentences' own message. -/
namespace Go.Proofs.YtkdhcokefnffaaaDoor
open Go.RowKit Go.Lib Sp
set_option maxRecDepth 100000

/-- A message that may travel. -/
inductive Ms where
  | hello (k r : Nat)
  | submit (r : Nat) (x : Cm)
  | ack (k r q : Nat)
  | cast (k r : Nat) (x : Cm)
def Ms.val : Ms → Value → Value
  | .hello k r, _ => .agg #[.int .i64 1, .int .i64 k, .int .i64 r, .int .i64 0, .int .i64 0, .int .i64 0, .int .i64 0, .int .i64 0, .string ⟨#[]⟩, .slice none 0 0, .int .i64 0, .int .i64 0, .bool false]
  | .submit r x, sl => msgV 2 x.op.c r 0 x.op sl
  | .ack k r q, _ => .agg #[.int .i64 3, .int .i64 k, .int .i64 r, .int .i64 q, .int .i64 0, .int .i64 0, .int .i64 0, .int .i64 0, .string ⟨#[]⟩, .slice none 0 0, .int .i64 0, .int .i64 0, .bool false]
  | .cast k r x, sl => msgV 4 k r 0 x.op sl
def Ms.Ok : Ms → Prop
  | .hello k r => (1 ≤ k ∧ k ≤ 8) ∧ r ≤ 8192
  | .submit r x => r ≤ 8192 ∧ x.Ok
  | .ack k r q => (1 ≤ k ∧ k ≤ 8) ∧ (1 ≤ r ∧ r ≤ 8192) ∧ 1 ≤ q ∧ q ≤ 1024
  | .cast k r x => (1 ≤ k ∧ k ≤ 8) ∧ (1 ≤ r ∧ r ≤ 8192) ∧ x.Ok
def Ms.Mem : Ms → World → Option Addr → Nat → Nat → Prop
  | .hello _ _, _, b, m, cp => b = none ∧ m = 0 ∧ cp = 0
  | .submit _ x, W, b, m, cp => Rw rangeV 2 W b m cp x.op.l ∧ ∀ g, b = some g → g.block < W.heap.size
  | .ack _ _ _, _, b, m, cp => b = none ∧ m = 0 ∧ cp = 0
  | .cast _ _ x, W, b, m, cp => Rw rangeV 2 W b m cp x.op.l ∧ ∀ g, b = some g → g.block < W.heap.size

set_option maxHeartbeats 8000000 in
theorem messageS {w : World} {ta pa : Option Addr} {tn tc pn pc : Nat} {zs ys : List Int} (ht : Rw rune1 1 w ta tn tc zs) (hp : Rw int1 1 w pa pn pc ys) (hpn : pn ≤ 9223372036854775807) (f0 f1 f2 f3 f4 f5 f6 f7 f8 f9 : Int) (on : Bool) :
    Calls Tryd.prog 7 #[.agg #[.int .i64 f0, .int .i64 f1, .int .i64 f2, .int .i64 f3, .int .i64 f4, .int .i64 f5, .int .i64 f6, .int .i64 f7, .slice ta tn tc, .slice pa pn pc, .bool on, .int .i64 f8, .int .u8 f9]] w fun e w' => ∃ (y : Ms) (b : Option Addr) (m cp : Nat), e = .returned (y.val (.slice b m cp)) ∧ y.Ok ∧ y.Mem w' b m cp ∧ Below w.heap.size w w' := by
  have HP1 := fun w => pick_any f0 4 (by omega) (by omega) w
  have HP2 := fun w => pick_any f1 8 (by omega) (by omega) w
  have HP3 := fun w => pick_any f2 8192 (by omega) (by omega) w
  obtain ⟨w2, hw2⟩ : ∃ W, (w.alloc (.cells #[.int .i64 f0, .int .i64 f1, .int .i64 f2, .int .i64 f3, .int .i64 f4, .int .i64 f5, .int .i64 f6, .int .i64 f7, .slice ta tn tc, .slice pa pn pc, .bool on, .int .i64 f8, .int .u8 f9] 26)).alloc (.cells #[.int .i64 0, .int .i64 0, .int .i64 0, .int .i64 0, .int .i64 0, .int .i64 0, .int .i64 0, .int .i64 0, .string ⟨#[]⟩, .slice none 0 0, .int .i64 0, .int .i64 0, .bool false] 37) = W := ⟨_, rfl⟩
  have hb2 : Below w.heap.size w w2 := by
    rw [← hw2]
    repeat (refine Below.alloc ?_ (by simp; try omega) _)
    exact Below.refl _ _
  have hs2 : w2.heap.size = w.heap.size + 1 + 1 := by rw [← hw2]; simp
  have hT : w2.heap[w.heap.size]? = some (.cells #[.int .i64 f0, .int .i64 f1, .int .i64 f2, .int .i64 f3, .int .i64 f4, .int .i64 f5, .int .i64 f6, .int .i64 f7, .slice ta tn tc, .slice pa pn pc, .bool on, .int .i64 f8, .int .u8 f9] 26) := by
    rw [← hw2]
    simp only [World.alloc, Array.getElem?_push, Array.size_push]
    rw [if_neg (by omega), if_pos trivial]
  have hR : w2.heap[w.heap.size + 1]? = some (.cells #[.int .i64 0, .int .i64 0, .int .i64 0, .int .i64 0, .int .i64 0, .int .i64 0, .int .i64 0, .int .i64 0, .string ⟨#[]⟩, .slice none 0 0, .int .i64 0, .int .i64 0, .bool false] 37) := by rw [← hw2]; simp only [World.alloc, Array.getElem?_push, Array.size_push]; simp
  obtain ⟨t0, t1, t2, t3, t4, t5, t6, t7, t8, t9, t10, t11, t12⟩ := box13 hT
  have HB : Hid (Below w.heap.size w w2 ∧ w2.heap[w.heap.size]? = some (.cells #[.int .i64 f0, .int .i64 f1, .int .i64 f2, .int .i64 f3, .int .i64 f4, .int .i64 f5, .int .i64 f6, .int .i64 f7, .slice ta tn tc, .slice pa pn pc, .bool on, .int .i64 f8, .int .u8 f9] 26) ∧ w2.heap[w.heap.size + 1]? = some (.cells #[.int .i64 0, .int .i64 0, .int .i64 0, .int .i64 0, .int .i64 0, .int .i64 0, .int .i64 0, .int .i64 0, .string ⟨#[]⟩, .slice none 0 0, .int .i64 0, .int .i64 0, .bool false] 37) ∧ w2.heap.size = w.heap.size + 1 + 1) := ⟨hb2, hT, hR, hs2⟩
  clear hb2 hT hR
  go_enter Tryd.func7, Tryd.ntmps7
  go_wp2_with fail
  have NEWB : ∀ (T : TypeId) (cs : Array Value), ((w2.alloc (.cells cs T)).drew).heap[w.heap.size + 1 + 1]? = some (.cells cs T) := fun T cs => by rw [← hs2]; exact heap_alloc_new _ _
  have NEWC : ∀ (o : Obj), Chg (fun _ => False) w2 ((w2.alloc o).drew) := fun o => (Chg.alloc _ w2 o).drew
  go_cut [3] (fun v W => v = .pointer (some ⟨w.heap.size + 1 + 1, 0, none⟩) ∧ ∃ A B D : Int, 1 ≤ A ∧ A ≤ 4 ∧ 1 ≤ B ∧ B ≤ 8 ∧ 1 ≤ D ∧ D ≤ 8192 ∧ W.heap[w.heap.size + 1 + 1]? = some (.cells #[.int .i64 A, .int .i64 B, .int .i64 D, .int .i64 0, .int .i64 0, .int .i64 0, .int .i64 0, .int .i64 0, .string ⟨#[]⟩, .slice none 0 0, .int .i64 0, .int .i64 0, .bool false] 37) ∧ Chg (fun _ => False) w2 W)
  case first =>
    clear hw2
    refine wp_region_held_drew (S := (fun W => ∀ p : Addr, p.block = w.heap.size → W.cell? p = w2.cell? p)) (by kernel_rfl) ?hS1 (fun hHeld => ?rest1)
    case hS1 => (intro p hp; first | rfl | exact cell_alloc_lt _ _ p (by rw [hp, hs2]; omega))
    refine takeD (i := 0) (d := some 4) (v := ?vT2) rfl rfl (by kernel_rfl) (by kernel_rfl) (by kernel_rfl) (fun _ _ _ h => h) (Or.inl ⟨by rfl, ?hyT2⟩) (by assumption) ?rstT2
    case hyT2 => (intro w hSw; (try dsimp only at hSw); go_simp; (try with_reducible rfl))
    try simp only [Act.put, List.setIfInBounds_toArray, List.set_cons_zero, List.set_cons_succ]
    refine takeD (i := 1) (d := some 5) (v := ?vT3) rfl rfl (by kernel_rfl) (by kernel_rfl) (by kernel_rfl) (fun _ _ _ h => h) (Or.inl ⟨by rfl, ?hyT3⟩) (by assumption) ?rstT3
    case hyT3 => (intro w hSw; (try dsimp only at hSw); go_simp; (try with_reducible rfl))
    try simp only [Act.put, List.setIfInBounds_toArray, List.set_cons_zero, List.set_cons_succ]
    refine takeD (i := 4) (d := some 8) (v := ?vT4) rfl rfl (by kernel_rfl) (by kernel_rfl) (by kernel_rfl) (fun _ _ _ h => h) (Or.inl ⟨by rfl, ?hyT4⟩) (by assumption) ?rstT4
    case hyT4 => (intro w hSw; (try dsimp only at hSw); go_simp; (try with_reducible rfl))
    try simp only [Act.put, List.setIfInBounds_toArray, List.set_cons_zero, List.set_cons_succ]
    refine takeD (i := 5) (d := some 9) (v := ?vT5) rfl rfl (by kernel_rfl) (by kernel_rfl) (by kernel_rfl) (fun _ _ _ h => h) (Or.inl ⟨by rfl, ?hyT5⟩) (by assumption) ?rstT5
    case hyT5 => (intro w hSw; (try dsimp only at hSw); go_simp; (try with_reducible rfl))
    try simp only [Act.put, List.setIfInBounds_toArray, List.set_cons_zero, List.set_cons_succ]
    refine takeD (i := 8) (d := some 12) (v := ?vT6) rfl rfl (by kernel_rfl) (by kernel_rfl) (by kernel_rfl) (fun _ _ _ h => h) (Or.inl ⟨by rfl, ?hyT6⟩) (by assumption) ?rstT6
    case hyT6 => (intro w hSw; (try dsimp only at hSw); go_simp; (try with_reducible rfl))
    try simp only [Act.put, List.setIfInBounds_toArray, List.set_cons_zero, List.set_cons_succ]
    refine takeD (i := 9) (d := some 13) (v := ?vT7) rfl rfl (by kernel_rfl) (by kernel_rfl) (by kernel_rfl) (fun _ _ _ h => h) (Or.inl ⟨by rfl, ?hyT7⟩) (by assumption) ?rstT7
    case hyT7 => (intro w hSw; (try dsimp only at hSw); go_simp; (try with_reducible rfl))
    try simp only [Act.put, List.setIfInBounds_toArray, List.set_cons_zero, List.set_cons_succ]
    refine wpAnyH_ready (rs := [2, 13]) (by kernel_rfl) (by simp) (AllReadyH.cons rfl (fun K hK => ?bA8) (AllReadyH.cons rfl (fun K hK => ?bB8) AllReadyH.nil))
    case bA8 =>
      go_simp
      refine (HP1 _).mono ?_
      rintro e2 wx ⟨a, rfl, ha, hwx⟩
      subst hwx
      have wra : IntKind.i64.wrap (1 + (a : Int)) = 1 + (a : Int) := IntWalk.i64_in _ (by omega)
      clear hHeld
      refine hK.out _ _ ?hS9 (fun hHeld => ?rest9)
      case hS9 => (intro p hp; first | rfl | exact cell_alloc_lt _ _ p (by rw [hp, hs2]; omega))
      clear hK K
      try simp only [Act.put, List.setIfInBounds_toArray, List.set_cons_zero, List.set_cons_succ]
      refine takeD (i := 3) (d := some 7) (v := ?vT10) rfl rfl (by kernel_rfl) (by kernel_rfl) (by kernel_rfl) (fun _ _ _ h => h) (Or.inl ⟨by rfl, ?hyT10⟩) (by assumption) ?rstT10
      case hyT10 => (intro w hSw; (try dsimp only at hSw); go_simp; (try with_reducible rfl))
      try simp only [Act.put, List.setIfInBounds_toArray, List.set_cons_zero, List.set_cons_succ]
      refine wpAnyH_ready (rs := [6, 13]) (by kernel_rfl) (by simp) (AllReadyH.cons rfl (fun K hK => ?bA11) (AllReadyH.cons rfl (fun K hK => ?bB11) AllReadyH.nil))
      case bA11 =>
        go_simp
        refine (HP2 _).mono ?_
        rintro e2 wx ⟨b, rfl, hb, hwx⟩
        subst hwx
        have wrb : IntKind.i64.wrap (1 + (b : Int)) = 1 + (b : Int) := IntWalk.i64_in _ (by omega)
        clear hHeld
        refine hK.out _ _ ?hS12 (fun hHeld => ?rest12)
        case hS12 => (intro p hp; first | rfl | exact cell_alloc_lt _ _ p (by rw [hp, hs2]; omega))
        clear hK K
        try simp only [Act.put, List.setIfInBounds_toArray, List.set_cons_zero, List.set_cons_succ]
        refine takeD (i := 7) (d := some 11) (v := ?vT13) rfl rfl (by kernel_rfl) (by kernel_rfl) (by kernel_rfl) (fun _ _ _ h => h) (Or.inl ⟨by rfl, ?hyT13⟩) (by assumption) ?rstT13
        case hyT13 => (intro w hSw; (try dsimp only at hSw); go_simp; (try with_reducible rfl))
        try simp only [Act.put, List.setIfInBounds_toArray, List.set_cons_zero, List.set_cons_succ]
        refine wpAnyH_ready (rs := [10, 13]) (by kernel_rfl) (by simp) (AllReadyH.cons rfl (fun K hK => ?bA14) (AllReadyH.cons rfl (fun K hK => ?bB14) AllReadyH.nil))
        case bA14 =>
          go_simp
          refine (HP3 _).mono ?_
          rintro e2 wx ⟨d, rfl, hd, hwx⟩
          subst hwx
          have wrd : IntKind.i64.wrap (1 + (d : Int)) = 1 + (d : Int) := IntWalk.i64_in _ (by omega)
          clear hHeld
          refine hK.out _ _ ?hS15 (fun hHeld => ?rest15)
          case hS15 => (intro p hp; first | rfl | exact cell_alloc_lt _ _ p (by rw [hp, hs2]; omega))
          clear hK K
          try simp only [Act.put, List.setIfInBounds_toArray, List.set_cons_zero, List.set_cons_succ]
          refine takeD (i := 11) (d := some 15) (v := ?vT16) rfl rfl (by kernel_rfl) (by kernel_rfl) (by kernel_rfl) (fun _ _ _ h => h) (Or.inl ⟨by rfl, ?hyT16⟩) (by assumption) ?rstT16
          case hyT16 => (intro w hSw; (try dsimp only at hSw); go_simp; (try with_reducible rfl))
          try simp only [Act.put, List.setIfInBounds_toArray, List.set_cons_zero, List.set_cons_succ]
          refine takeD (i := 12) (d := some 16) (v := ?vT17) rfl rfl (by kernel_rfl) (by kernel_rfl) (by kernel_rfl) (fun _ _ _ h => h) (Or.inl ⟨by rfl, ?hyT17⟩) (by assumption) ?rstT17
          case hyT17 => (intro w hSw; (try dsimp only at hSw); go_simp; (try with_reducible rfl))
          try simp only [Act.put, List.setIfInBounds_toArray, List.set_cons_zero, List.set_cons_succ]
          refine wpAnyH_ready (rs := [13]) (by kernel_rfl) (by simp) ?_
          refine AllReadyH.cons rfl (fun K hK => ?_) AllReadyH.nil
          go_simp
          clear hHeld
          refine hK.out _ _ ?hS18 (fun hHeld => ?rest18)
          case hS18 => (intro p hp; first | rfl | exact cell_alloc_lt _ _ p (by rw [hp, hs2]; omega))
          clear hK K
          try simp only [Act.put, List.setIfInBounds_toArray, List.set_cons_zero, List.set_cons_succ]
          refine wpAnyH_ready (rs := [14]) (by kernel_rfl) (by simp) ?_
          refine AllReadyH.cons rfl (fun K hK => ?_) AllReadyH.nil
          go_simp
          clear hHeld
          refine hK.out _ _ ?hS19 (fun hHeld => ?rest19)
          case hS19 => (intro p hp; first | rfl | exact cell_alloc_lt _ _ p (by rw [hp, hs2]; omega))
          clear hK K
          try simp only [Act.put, List.setIfInBounds_toArray, List.set_cons_zero, List.set_cons_succ]
          refine wpAnyH_done (by kernel_rfl) ?_ _
          clear hHeld
          go_wp2_with fail
          go_meet
          case rel => exact ⟨rfl, 1 + (a : Int), 1 + (b : Int), 1 + (d : Int), by omega, by omega, by omega, by omega, by omega, by omega, NEWB _ _, NEWC _⟩
        case bB14 =>
          go_simp
          clear hHeld
          refine hK.out _ _ ?hS20 (fun hHeld => ?rest20)
          case hS20 => (intro p hp; first | rfl | exact cell_alloc_lt _ _ p (by rw [hp, hs2]; omega))
          clear hK K
          try simp only [Act.put, List.setIfInBounds_toArray, List.set_cons_zero, List.set_cons_succ]
          refine wpAnyH_ready (rs := [10]) (by kernel_rfl) (by simp) ?_
          refine AllReadyH.cons rfl (fun K hK => ?_) AllReadyH.nil
          go_simp
          refine (HP3 _).mono ?_
          rintro e2 wx ⟨d, rfl, hd, hwx⟩
          subst hwx
          have wrd : IntKind.i64.wrap (1 + (d : Int)) = 1 + (d : Int) := IntWalk.i64_in _ (by omega)
          clear hHeld
          refine hK.out _ _ ?hS21 (fun hHeld => ?rest21)
          case hS21 => (intro p hp; first | rfl | exact cell_alloc_lt _ _ p (by rw [hp, hs2]; omega))
          clear hK K
          try simp only [Act.put, List.setIfInBounds_toArray, List.set_cons_zero, List.set_cons_succ]
          refine takeD (i := 11) (d := some 15) (v := ?vT22) rfl rfl (by kernel_rfl) (by kernel_rfl) (by kernel_rfl) (fun _ _ _ h => h) (Or.inl ⟨by rfl, ?hyT22⟩) (by assumption) ?rstT22
          case hyT22 => (intro w hSw; (try dsimp only at hSw); go_simp; (try with_reducible rfl))
          try simp only [Act.put, List.setIfInBounds_toArray, List.set_cons_zero, List.set_cons_succ]
          refine takeD (i := 12) (d := some 16) (v := ?vT23) rfl rfl (by kernel_rfl) (by kernel_rfl) (by kernel_rfl) (fun _ _ _ h => h) (Or.inl ⟨by rfl, ?hyT23⟩) (by assumption) ?rstT23
          case hyT23 => (intro w hSw; (try dsimp only at hSw); go_simp; (try with_reducible rfl))
          try simp only [Act.put, List.setIfInBounds_toArray, List.set_cons_zero, List.set_cons_succ]
          refine wpAnyH_ready (rs := [14]) (by kernel_rfl) (by simp) ?_
          refine AllReadyH.cons rfl (fun K hK => ?_) AllReadyH.nil
          go_simp
          clear hHeld
          refine hK.out _ _ ?hS24 (fun hHeld => ?rest24)
          case hS24 => (intro p hp; first | rfl | exact cell_alloc_lt _ _ p (by rw [hp, hs2]; omega))
          clear hK K
          try simp only [Act.put, List.setIfInBounds_toArray, List.set_cons_zero, List.set_cons_succ]
          refine wpAnyH_done (by kernel_rfl) ?_ _
          clear hHeld
          go_wp2_with fail
          go_meet
          case rel => exact ⟨rfl, 1 + (a : Int), 1 + (b : Int), 1 + (d : Int), by omega, by omega, by omega, by omega, by omega, by omega, NEWB _ _, NEWC _⟩
      case bB11 =>
        go_simp
        clear hHeld
        refine hK.out _ _ ?hS25 (fun hHeld => ?rest25)
        case hS25 => (intro p hp; first | rfl | exact cell_alloc_lt _ _ p (by rw [hp, hs2]; omega))
        clear hK K
        try simp only [Act.put, List.setIfInBounds_toArray, List.set_cons_zero, List.set_cons_succ]
        refine wpAnyH_ready (rs := [6]) (by kernel_rfl) (by simp) ?_
        refine AllReadyH.cons rfl (fun K hK => ?_) AllReadyH.nil
        go_simp
        refine (HP2 _).mono ?_
        rintro e2 wx ⟨b, rfl, hb, hwx⟩
        subst hwx
        have wrb : IntKind.i64.wrap (1 + (b : Int)) = 1 + (b : Int) := IntWalk.i64_in _ (by omega)
        clear hHeld
        refine hK.out _ _ ?hS26 (fun hHeld => ?rest26)
        case hS26 => (intro p hp; first | rfl | exact cell_alloc_lt _ _ p (by rw [hp, hs2]; omega))
        clear hK K
        try simp only [Act.put, List.setIfInBounds_toArray, List.set_cons_zero, List.set_cons_succ]
        refine takeD (i := 7) (d := some 11) (v := ?vT27) rfl rfl (by kernel_rfl) (by kernel_rfl) (by kernel_rfl) (fun _ _ _ h => h) (Or.inl ⟨by rfl, ?hyT27⟩) (by assumption) ?rstT27
        case hyT27 => (intro w hSw; (try dsimp only at hSw); go_simp; (try with_reducible rfl))
        try simp only [Act.put, List.setIfInBounds_toArray, List.set_cons_zero, List.set_cons_succ]
        refine wpAnyH_ready (rs := [10]) (by kernel_rfl) (by simp) ?_
        refine AllReadyH.cons rfl (fun K hK => ?_) AllReadyH.nil
        go_simp
        refine (HP3 _).mono ?_
        rintro e2 wx ⟨d, rfl, hd, hwx⟩
        subst hwx
        have wrd : IntKind.i64.wrap (1 + (d : Int)) = 1 + (d : Int) := IntWalk.i64_in _ (by omega)
        clear hHeld
        refine hK.out _ _ ?hS28 (fun hHeld => ?rest28)
        case hS28 => (intro p hp; first | rfl | exact cell_alloc_lt _ _ p (by rw [hp, hs2]; omega))
        clear hK K
        try simp only [Act.put, List.setIfInBounds_toArray, List.set_cons_zero, List.set_cons_succ]
        refine takeD (i := 11) (d := some 15) (v := ?vT29) rfl rfl (by kernel_rfl) (by kernel_rfl) (by kernel_rfl) (fun _ _ _ h => h) (Or.inl ⟨by rfl, ?hyT29⟩) (by assumption) ?rstT29
        case hyT29 => (intro w hSw; (try dsimp only at hSw); go_simp; (try with_reducible rfl))
        try simp only [Act.put, List.setIfInBounds_toArray, List.set_cons_zero, List.set_cons_succ]
        refine takeD (i := 12) (d := some 16) (v := ?vT30) rfl rfl (by kernel_rfl) (by kernel_rfl) (by kernel_rfl) (fun _ _ _ h => h) (Or.inl ⟨by rfl, ?hyT30⟩) (by assumption) ?rstT30
        case hyT30 => (intro w hSw; (try dsimp only at hSw); go_simp; (try with_reducible rfl))
        try simp only [Act.put, List.setIfInBounds_toArray, List.set_cons_zero, List.set_cons_succ]
        refine wpAnyH_ready (rs := [14]) (by kernel_rfl) (by simp) ?_
        refine AllReadyH.cons rfl (fun K hK => ?_) AllReadyH.nil
        go_simp
        clear hHeld
        refine hK.out _ _ ?hS31 (fun hHeld => ?rest31)
        case hS31 => (intro p hp; first | rfl | exact cell_alloc_lt _ _ p (by rw [hp, hs2]; omega))
        clear hK K
        try simp only [Act.put, List.setIfInBounds_toArray, List.set_cons_zero, List.set_cons_succ]
        refine wpAnyH_done (by kernel_rfl) ?_ _
        clear hHeld
        go_wp2_with fail
        go_meet
        case rel => exact ⟨rfl, 1 + (a : Int), 1 + (b : Int), 1 + (d : Int), by omega, by omega, by omega, by omega, by omega, by omega, NEWB _ _, NEWC _⟩
    case bB8 =>
      go_simp
      clear hHeld
      refine hK.out _ _ ?hS32 (fun hHeld => ?rest32)
      case hS32 => (intro p hp; first | rfl | exact cell_alloc_lt _ _ p (by rw [hp, hs2]; omega))
      clear hK K
      try simp only [Act.put, List.setIfInBounds_toArray, List.set_cons_zero, List.set_cons_succ]
      refine wpAnyH_ready (rs := [2]) (by kernel_rfl) (by simp) ?_
      refine AllReadyH.cons rfl (fun K hK => ?_) AllReadyH.nil
      go_simp
      refine (HP1 _).mono ?_
      rintro e2 wx ⟨a, rfl, ha, hwx⟩
      subst hwx
      have wra : IntKind.i64.wrap (1 + (a : Int)) = 1 + (a : Int) := IntWalk.i64_in _ (by omega)
      clear hHeld
      refine hK.out _ _ ?hS33 (fun hHeld => ?rest33)
      case hS33 => (intro p hp; first | rfl | exact cell_alloc_lt _ _ p (by rw [hp, hs2]; omega))
      clear hK K
      try simp only [Act.put, List.setIfInBounds_toArray, List.set_cons_zero, List.set_cons_succ]
      refine takeD (i := 3) (d := some 7) (v := ?vT34) rfl rfl (by kernel_rfl) (by kernel_rfl) (by kernel_rfl) (fun _ _ _ h => h) (Or.inl ⟨by rfl, ?hyT34⟩) (by assumption) ?rstT34
      case hyT34 => (intro w hSw; (try dsimp only at hSw); go_simp; (try with_reducible rfl))
      try simp only [Act.put, List.setIfInBounds_toArray, List.set_cons_zero, List.set_cons_succ]
      refine wpAnyH_ready (rs := [6]) (by kernel_rfl) (by simp) ?_
      refine AllReadyH.cons rfl (fun K hK => ?_) AllReadyH.nil
      go_simp
      refine (HP2 _).mono ?_
      rintro e2 wx ⟨b, rfl, hb, hwx⟩
      subst hwx
      have wrb : IntKind.i64.wrap (1 + (b : Int)) = 1 + (b : Int) := IntWalk.i64_in _ (by omega)
      clear hHeld
      refine hK.out _ _ ?hS35 (fun hHeld => ?rest35)
      case hS35 => (intro p hp; first | rfl | exact cell_alloc_lt _ _ p (by rw [hp, hs2]; omega))
      clear hK K
      try simp only [Act.put, List.setIfInBounds_toArray, List.set_cons_zero, List.set_cons_succ]
      refine takeD (i := 7) (d := some 11) (v := ?vT36) rfl rfl (by kernel_rfl) (by kernel_rfl) (by kernel_rfl) (fun _ _ _ h => h) (Or.inl ⟨by rfl, ?hyT36⟩) (by assumption) ?rstT36
      case hyT36 => (intro w hSw; (try dsimp only at hSw); go_simp; (try with_reducible rfl))
      try simp only [Act.put, List.setIfInBounds_toArray, List.set_cons_zero, List.set_cons_succ]
      refine wpAnyH_ready (rs := [10]) (by kernel_rfl) (by simp) ?_
      refine AllReadyH.cons rfl (fun K hK => ?_) AllReadyH.nil
      go_simp
      refine (HP3 _).mono ?_
      rintro e2 wx ⟨d, rfl, hd, hwx⟩
      subst hwx
      have wrd : IntKind.i64.wrap (1 + (d : Int)) = 1 + (d : Int) := IntWalk.i64_in _ (by omega)
      clear hHeld
      refine hK.out _ _ ?hS37 (fun hHeld => ?rest37)
      case hS37 => (intro p hp; first | rfl | exact cell_alloc_lt _ _ p (by rw [hp, hs2]; omega))
      clear hK K
      try simp only [Act.put, List.setIfInBounds_toArray, List.set_cons_zero, List.set_cons_succ]
      refine takeD (i := 11) (d := some 15) (v := ?vT38) rfl rfl (by kernel_rfl) (by kernel_rfl) (by kernel_rfl) (fun _ _ _ h => h) (Or.inl ⟨by rfl, ?hyT38⟩) (by assumption) ?rstT38
      case hyT38 => (intro w hSw; (try dsimp only at hSw); go_simp; (try with_reducible rfl))
      try simp only [Act.put, List.setIfInBounds_toArray, List.set_cons_zero, List.set_cons_succ]
      refine takeD (i := 12) (d := some 16) (v := ?vT39) rfl rfl (by kernel_rfl) (by kernel_rfl) (by kernel_rfl) (fun _ _ _ h => h) (Or.inl ⟨by rfl, ?hyT39⟩) (by assumption) ?rstT39
      case hyT39 => (intro w hSw; (try dsimp only at hSw); go_simp; (try with_reducible rfl))
      try simp only [Act.put, List.setIfInBounds_toArray, List.set_cons_zero, List.set_cons_succ]
      refine wpAnyH_ready (rs := [14]) (by kernel_rfl) (by simp) ?_
      refine AllReadyH.cons rfl (fun K hK => ?_) AllReadyH.nil
      go_simp
      clear hHeld
      refine hK.out _ _ ?hS40 (fun hHeld => ?rest40)
      case hS40 => (intro p hp; first | rfl | exact cell_alloc_lt _ _ p (by rw [hp, hs2]; omega))
      clear hK K
      try simp only [Act.put, List.setIfInBounds_toArray, List.set_cons_zero, List.set_cons_succ]
      refine wpAnyH_done (by kernel_rfl) ?_ _
      clear hHeld
      go_wp2_with fail
      go_meet
      case rel => exact ⟨rfl, 1 + (a : Int), 1 + (b : Int), 1 + (d : Int), by omega, by omega, by omega, by omega, by omega, by omega, NEWB _ _, NEWC _⟩

  case rest =>
  obtain ⟨rfl, A, B, D, hA1, hA2, hB1, hB2, hD1, hD2, hMc, hCx⟩ := hcut
  obtain ⟨hb2, hT, hR, hs2'⟩ := HB.out
  have hTc := hCx.block hT (fun e => e)
  have hRc := hCx.block hR (fun e => e)
  have hCc : Chg (fun g => w.heap.size ≤ g) w wc := (Chg.of_below hb2).trans (hCx.mono (fun _ _ e => e.elim))
  clear HB HP1 HP2 HP3 NEWB NEWC hb2 hT hR hs2' hCx hw2 hs2 t0 t1 t2 t3 t4 t5 t6 t7 t8 t9 t10 t11 t12
  obtain ⟨kB, rfl⟩ : ∃ x : Nat, B = (x : Int) := ⟨B.toNat, by omega⟩
  obtain ⟨kD, rfl⟩ : ∃ x : Nat, D = (x : Int) := ⟨D.toNat, by omega⟩
  obtain rfl | rfl | rfl | rfl : A = 1 ∨ A = 2 ∨ A = 3 ∨ A = 4 := by omega
  · skip
    have HP4 := fun w => pick_any f2 8193 (by omega) (by omega) w
    obtain ⟨t0, t1, t2, t3, t4, t5, t6, t7, t8, t9, t10, t11, t12⟩ := box13 hTc
    obtain ⟨m0, m1, m2, m3, m4, m5, m6, m7, m8, m9, m10, m11, m12⟩ := box13 hMc
    go_wp2_with fail
    refine (HP4 _).mono ?_
    rintro e w7 ⟨z, rfl, hz, hw7⟩
    subst hw7
    clear HP4
    clear t0 t1 t2 t3 t4 t5 t6 t7 t8 t9 t10 t11 t12 m0 m1 m2 m3 m4 m5 m6 m7 m8 m9 m10 m11 m12
    obtain ⟨w8, ew8⟩ : ∃ W, w7.setCell ⟨w.heap.size + 1 + 1, 2, none⟩ (.int .i64 (z : Int)) = W := ⟨_, rfl⟩
    have hM8 : w8.heap[w.heap.size + 1 + 1]? = some (.cells #[.int .i64 1, .int .i64 (kB : Int), .int .i64 (z : Int), .int .i64 0, .int .i64 0, .int .i64 0, .int .i64 0, .int .i64 0, .string ⟨#[]⟩, .slice none 0 0, .int .i64 0, .int .i64 0, .bool false] 37) := ew8 ▸ heap_setCell_cells hMc 2 _
    have hS8 : Chg (fun g => g = w.heap.size + 1 + 1) w7 w8 := ew8 ▸ Chg.set (D := fun g => g = w.heap.size + 1 + 1) (q := w.heap.size + 1 + 1) 2 w7 _ rfl
    have hT8 := hS8.block hTc (by omega)
    have hR8 := hS8.block hRc (by omega)
    have hC8 : Chg (fun g => w.heap.size ≤ g) w w8 := hCc.trans (hS8.mono (fun _ _ e => by omega))
    have x8 : w7.cell? ⟨w.heap.size + 1 + 1, 2, none⟩ = some (.int .i64 (kD : Int)) := by rw [Lib.cell_of_heap hMc]; rfl
    have y8 := Lib.frozen_of_heap hMc 2
    clear hS8
    have HE : Hid (w8.heap[w.heap.size + 1]? = some (.cells #[.int .i64 0, .int .i64 0, .int .i64 0, .int .i64 0, .int .i64 0, .int .i64 0, .int .i64 0, .int .i64 0, .string ⟨#[]⟩, .slice none 0 0, .int .i64 0, .int .i64 0, .bool false] 37) ∧ Chg (fun g => w.heap.size ≤ g) w w8) := ⟨hR8, hC8⟩
    have FR : ∀ i, w8.frozen? ⟨w.heap.size + 1, i, none⟩ = false := fun i => Lib.frozen_of_heap hR8 i
    obtain ⟨m0, m1, m2, m3, m4, m5, m6, m7, m8, m9, m10, m11, m12⟩ := box13 hM8
    obtain ⟨r0, r1, r2, r3, r4, r5, r6, r7, r8, r9, r10, r11, r12⟩ := box13 hR8
    clear hR8 hM8 hC8
    go_wp2_with fail
    obtain ⟨hx, hCx⟩ := set13 HE.out.1 (.int .i64 1) (.int .i64 (kB : Int)) (.int .i64 (z : Int)) (.int .i64 0) (.int .i64 0) (.int .i64 0) (.int .i64 0) (.int .i64 0) (.string ⟨#[]⟩) (.slice none 0 0) (.int .i64 0) (.int .i64 0) (.bool false)
    clear m0 m1 m2 m3 m4 m5 m6 m7 m8 m9 m10 m11 m12 r0 r1 r2 r3 r4 r5 r6 r7 r8 r9 r10 r11 r12 FR
    revert hx hCx
    generalize World.setCell _ ⟨w.heap.size + 1, 12, none⟩ (.bool false) = w9
    intro hx hCx
    obtain ⟨r0, r1, r2, r3, r4, r5, r6, r7, r8, r9, r10, r11, r12⟩ := box13 hx
    refine bodyPost_ret (v := .agg #[.int .i64 1, .int .i64 (kB : Int), .int .i64 (z : Int), .int .i64 0, .int .i64 0, .int .i64 0, .int .i64 0, .int .i64 0, .string ⟨#[]⟩, .slice none 0 0, .int .i64 0, .int .i64 0, .bool false]) (by simp [results, Tryd.results7, go_sem, r0, r1, r2, r3, r4, r5, r6, r7, r8, r9, r10, r11, r12]) rfl ?_
    exact ⟨.hello kB z, none, 0, 0, rfl, ⟨by omega, by omega⟩, ⟨rfl, rfl, rfl⟩, (HE.out.2.trans (hCx.mono (fun _ _ e => by omega))).below (fun _ e => e) (Nat.le_refl _)⟩
  · skip
    have HP4 := fun w => pick_any f2 8193 (by omega) (by omega) w
    obtain ⟨t0, t1, t2, t3, t4, t5, t6, t7, t8, t9, t10, t11, t12⟩ := box13 hTc
    obtain ⟨m0, m1, m2, m3, m4, m5, m6, m7, m8, m9, m10, m11, m12⟩ := box13 hMc
    go_wp2_with fail
    refine (HP4 _).mono ?_
    rintro e w7 ⟨z, rfl, hz, hw7⟩
    subst hw7
    clear HP4
    clear t0 t1 t2 t3 t4 t5 t6 t7 t8 t9 t10 t11 t12 m0 m1 m2 m3 m4 m5 m6 m7 m8 m9 m10 m11 m12
    obtain ⟨w8, ew8⟩ : ∃ W, w7.setCell ⟨w.heap.size + 1 + 1, 2, none⟩ (.int .i64 (z : Int)) = W := ⟨_, rfl⟩
    have hM8 : w8.heap[w.heap.size + 1 + 1]? = some (.cells #[.int .i64 2, .int .i64 (kB : Int), .int .i64 (z : Int), .int .i64 0, .int .i64 0, .int .i64 0, .int .i64 0, .int .i64 0, .string ⟨#[]⟩, .slice none 0 0, .int .i64 0, .int .i64 0, .bool false] 37) := ew8 ▸ heap_setCell_cells hMc 2 _
    have hS8 : Chg (fun g => g = w.heap.size + 1 + 1) w7 w8 := ew8 ▸ Chg.set (D := fun g => g = w.heap.size + 1 + 1) (q := w.heap.size + 1 + 1) 2 w7 _ rfl
    have hT8 := hS8.block hTc (by omega)
    have hR8 := hS8.block hRc (by omega)
    have hC8 : Chg (fun g => w.heap.size ≤ g) w w8 := hCc.trans (hS8.mono (fun _ _ e => by omega))
    have x8 : w7.cell? ⟨w.heap.size + 1 + 1, 2, none⟩ = some (.int .i64 (kD : Int)) := by rw [Lib.cell_of_heap hMc]; rfl
    have y8 := Lib.frozen_of_heap hMc 2
    clear hS8
    have HL := commandS (ht.below (hC8.below (fun _ e => e) (Nat.le_refl _))) (hp.below (hC8.below (fun _ e => e) (Nat.le_refl _))) hpn f0 f1 f2 f3 f4 f5 f6 f7 f8 f9 on
    obtain ⟨t0, t1, t2, t3, t4, t5, t6, t7, t8, t9, t10, t11, t12⟩ := box13 hT8
    obtain ⟨m0, m1, m2, m3, m4, m5, m6, m7, m8, m9, m10, m11, m12⟩ := box13 hM8
    go_wp2_with fail
    refine HL.mono ?_
    rintro e w10 ⟨x, b, m, cp, rfl, hok, hrw, hbl, hb10⟩
    clear HL ew8 x8 y8
    obtain ⟨o, hop⟩ : ∃ o, x.op = o := ⟨_, rfl⟩
    rw [hop] at hrw
    rw [hop]
    obtain ⟨oc, on_, ok, op, os, ol, ox, oy, oz⟩ := o
    simp only [opVal]
    simp only at hrw
    have HOK : Hid x.Ok := hok
    have hMl := (Array.getElem?_eq_some_iff.1 hM8).1
    have hge : ∀ g, b = some g → w.heap.size + 1 + 1 < g.block ∧ g.block < w10.heap.size := fun g e => by have := hbl g e; omega
    clear hok hbl hMl
    clear t0 t1 t2 t3 t4 t5 t6 t7 t8 t9 t10 t11 t12 m0 m1 m2 m3 m4 m5 m6 m7 m8 m9 m10 m11 m12
    have hT10 := (hb10.block _ (Array.getElem?_eq_some_iff.1 hT8).1).trans hT8
    have hR10 := (hb10.block _ (Array.getElem?_eq_some_iff.1 hR8).1).trans hR8
    have hM10 := (hb10.block _ (Array.getElem?_eq_some_iff.1 hM8).1).trans hM8
    have hC10 := hC8.trans (Chg.of_below hb10)
    obtain ⟨hx11, hS11⟩ := set9b hM10 (.int .i64 oc) (.int .i64 on_) (.int .i64 ok) (.int .i64 op) (.string os) (.slice b m cp) (.int .i64 ox) (.int .i64 oy) (.bool oz)
    obtain ⟨w11, ew11⟩ : ∃ W, (((((((((w10.setCell ⟨w.heap.size + 1 + 1, 4, none⟩ (.int .i64 oc)).setCell ⟨w.heap.size + 1 + 1, 5, none⟩ (.int .i64 on_)).setCell ⟨w.heap.size + 1 + 1, 6, none⟩ (.int .i64 ok)).setCell ⟨w.heap.size + 1 + 1, 7, none⟩ (.int .i64 op)).setCell ⟨w.heap.size + 1 + 1, 8, none⟩ (.string os)).setCell ⟨w.heap.size + 1 + 1, 9, none⟩ (.slice b m cp)).setCell ⟨w.heap.size + 1 + 1, 10, none⟩ (.int .i64 ox)).setCell ⟨w.heap.size + 1 + 1, 11, none⟩ (.int .i64 oy)).setCell ⟨w.heap.size + 1 + 1, 12, none⟩ (.bool oz)) = W := ⟨_, rfl⟩
    rw [ew11] at hx11 hS11
    have hM11 : w11.heap[w.heap.size + 1 + 1]? = some (.cells #[.int .i64 2, .int .i64 (kB : Int), .int .i64 (z : Int), .int .i64 0, .int .i64 oc, .int .i64 on_, .int .i64 ok, .int .i64 op, .string os, .slice b m cp, .int .i64 ox, .int .i64 oy, .bool oz] 37) := hx11
    have hT11 := hS11.block hT10 (by omega)
    have hR11 := hS11.block hR10 (by omega)
    have hC11 : Chg (fun g => w.heap.size ≤ g) w w11 := hC10.trans (hS11.mono (fun _ _ e => by omega))
    have hrw11 := hrw.chg hS11 (fun g e => by have := hge g e; omega)
    have HRW : Hid (Rw rangeV 2 w11 b m cp ol ∧ w10.heap.size ≤ w11.heap.size) := ⟨hrw11, hS11.size⟩
    clear hrw hrw11
    obtain ⟨m0, m1, m2, m3, m4, m5, m6, m7, m8, m9, m10, m11, m12⟩ := box13 hM10
    have FM : ∀ i, w10.frozen? ⟨w.heap.size + 1 + 1, i, none⟩ = false := fun i => Lib.frozen_of_heap hM10 i
    clear hx11 hS11
    obtain ⟨k0, k1, k2, k3, k4, k5, k6, k7, k8, k9, k10, k11, k12⟩ := box13 hM11
    obtain ⟨w12, ew12⟩ : ∃ W, w11.setCell ⟨w.heap.size + 1 + 1, 1, none⟩ (.int .i64 oc) = W := ⟨_, rfl⟩
    have hM12 : w12.heap[w.heap.size + 1 + 1]? = some (.cells #[.int .i64 2, .int .i64 oc, .int .i64 (z : Int), .int .i64 0, .int .i64 oc, .int .i64 on_, .int .i64 ok, .int .i64 op, .string os, .slice b m cp, .int .i64 ox, .int .i64 oy, .bool oz] 37) := ew12 ▸ heap_setCell_cells hM11 1 _
    have hS12 : Chg (fun g => g = w.heap.size + 1 + 1) w11 w12 := ew12 ▸ Chg.set (D := fun g => g = w.heap.size + 1 + 1) (q := w.heap.size + 1 + 1) 1 w11 _ rfl
    have hT12 := hS12.block hT11 (by omega)
    have hR12 := hS12.block hR11 (by omega)
    have hC12 : Chg (fun g => w.heap.size ≤ g) w w12 := hC11.trans (hS12.mono (fun _ _ e => by omega))
    have x12 : w11.cell? ⟨w.heap.size + 1 + 1, 1, none⟩ = some (.int .i64 (kB : Int)) := by rw [Lib.cell_of_heap hM11]; rfl
    have y12 := Lib.frozen_of_heap hM11 1
    have hrw12 := HRW.out.1.chg hS12 (fun g e => by have := hge g e; omega)
    have HRX : Hid (Rw rangeV 2 w12 b m cp ol ∧ w10.heap.size ≤ w12.heap.size) := ⟨hrw12, Nat.le_trans HRW.out.2 hS12.size⟩
    clear hrw12 HRW hS12
    have HRW := HRX
    clear HRX
    have HE : Hid (w12.heap[w.heap.size + 1]? = some (.cells #[.int .i64 0, .int .i64 0, .int .i64 0, .int .i64 0, .int .i64 0, .int .i64 0, .int .i64 0, .int .i64 0, .string ⟨#[]⟩, .slice none 0 0, .int .i64 0, .int .i64 0, .bool false] 37) ∧ Chg (fun g => w.heap.size ≤ g) w w12) := ⟨hR12, hC12⟩
    have FR : ∀ i, w12.frozen? ⟨w.heap.size + 1, i, none⟩ = false := fun i => Lib.frozen_of_heap hR12 i
    obtain ⟨n0, n1, n2, n3, n4, n5, n6, n7, n8, n9, n10, n11, n12⟩ := box13 hM12
    obtain ⟨r0, r1, r2, r3, r4, r5, r6, r7, r8, r9, r10, r11, r12⟩ := box13 hR12
    clear hR12 hM12 hC12
    go_wp2_with fail
    obtain ⟨hx, hCx⟩ := set13 HE.out.1 (.int .i64 2) (.int .i64 oc) (.int .i64 (z : Int)) (.int .i64 0) (.int .i64 oc) (.int .i64 on_) (.int .i64 ok) (.int .i64 op) (.string os) (.slice b m cp) (.int .i64 ox) (.int .i64 oy) (.bool oz)
    clear n0 n1 n2 n3 n4 n5 n6 n7 n8 n9 n10 n11 n12 r0 r1 r2 r3 r4 r5 r6 r7 r8 r9 r10 r11 r12 FR
    revert hx hCx
    generalize World.setCell _ ⟨w.heap.size + 1, 12, none⟩ (.bool oz) = w9
    intro hx hCx
    obtain ⟨r0, r1, r2, r3, r4, r5, r6, r7, r8, r9, r10, r11, r12⟩ := box13 hx
    refine bodyPost_ret (v := .agg #[.int .i64 2, .int .i64 oc, .int .i64 (z : Int), .int .i64 0, .int .i64 oc, .int .i64 on_, .int .i64 ok, .int .i64 op, .string os, .slice b m cp, .int .i64 ox, .int .i64 oy, .bool oz]) (by simp [results, Tryd.results7, go_sem, r0, r1, r2, r3, r4, r5, r6, r7, r8, r9, r10, r11, r12]) rfl ?_
    exact ⟨.submit z x, b, m, cp, by simp only [Ms.val, msgV, msgA, hop], ⟨by omega, HOK.out⟩, ⟨hop ▸ HRW.out.1.chg hCx (fun g e => by have := hge g e; omega), fun g e => by have := hge g e; have := HRW.out.2; have := hCx.size; omega⟩, (HE.out.2.trans (hCx.mono (fun _ _ e => by omega))).below (fun _ e => e) (Nat.le_refl _)⟩
  · skip
    have HP5 := fun w => pick_any f3 1024 (by omega) (by omega) w
    obtain ⟨t0, t1, t2, t3, t4, t5, t6, t7, t8, t9, t10, t11, t12⟩ := box13 hTc
    obtain ⟨m0, m1, m2, m3, m4, m5, m6, m7, m8, m9, m10, m11, m12⟩ := box13 hMc
    go_wp2_with fail
    refine (HP5 _).mono ?_
    rintro e w7 ⟨z, rfl, hz, hw7⟩
    subst hw7
    have wrz : IntKind.i64.wrap (1 + (z : Int)) = 1 + (z : Int) := IntWalk.i64_in _ (by omega)
    clear HP5
    clear t0 t1 t2 t3 t4 t5 t6 t7 t8 t9 t10 t11 t12 m0 m1 m2 m3 m4 m5 m6 m7 m8 m9 m10 m11 m12
    obtain ⟨w8, ew8⟩ : ∃ W, w7.setCell ⟨w.heap.size + 1 + 1, 3, none⟩ (.int .i64 (1 + (z : Int))) = W := ⟨_, rfl⟩
    have hM8 : w8.heap[w.heap.size + 1 + 1]? = some (.cells #[.int .i64 3, .int .i64 (kB : Int), .int .i64 (kD : Int), .int .i64 (1 + (z : Int)), .int .i64 0, .int .i64 0, .int .i64 0, .int .i64 0, .string ⟨#[]⟩, .slice none 0 0, .int .i64 0, .int .i64 0, .bool false] 37) := ew8 ▸ heap_setCell_cells hMc 3 _
    have hS8 : Chg (fun g => g = w.heap.size + 1 + 1) w7 w8 := ew8 ▸ Chg.set (D := fun g => g = w.heap.size + 1 + 1) (q := w.heap.size + 1 + 1) 3 w7 _ rfl
    have hT8 := hS8.block hTc (by omega)
    have hR8 := hS8.block hRc (by omega)
    have hC8 : Chg (fun g => w.heap.size ≤ g) w w8 := hCc.trans (hS8.mono (fun _ _ e => by omega))
    have x8 : w7.cell? ⟨w.heap.size + 1 + 1, 3, none⟩ = some (.int .i64 0) := by rw [Lib.cell_of_heap hMc]; rfl
    have y8 := Lib.frozen_of_heap hMc 3
    clear hS8
    have HE : Hid (w8.heap[w.heap.size + 1]? = some (.cells #[.int .i64 0, .int .i64 0, .int .i64 0, .int .i64 0, .int .i64 0, .int .i64 0, .int .i64 0, .int .i64 0, .string ⟨#[]⟩, .slice none 0 0, .int .i64 0, .int .i64 0, .bool false] 37) ∧ Chg (fun g => w.heap.size ≤ g) w w8) := ⟨hR8, hC8⟩
    have FR : ∀ i, w8.frozen? ⟨w.heap.size + 1, i, none⟩ = false := fun i => Lib.frozen_of_heap hR8 i
    obtain ⟨m0, m1, m2, m3, m4, m5, m6, m7, m8, m9, m10, m11, m12⟩ := box13 hM8
    obtain ⟨r0, r1, r2, r3, r4, r5, r6, r7, r8, r9, r10, r11, r12⟩ := box13 hR8
    clear hR8 hM8 hC8
    go_wp2_with fail
    obtain ⟨hx, hCx⟩ := set13 HE.out.1 (.int .i64 3) (.int .i64 (kB : Int)) (.int .i64 (kD : Int)) (.int .i64 (1 + (z : Int))) (.int .i64 0) (.int .i64 0) (.int .i64 0) (.int .i64 0) (.string ⟨#[]⟩) (.slice none 0 0) (.int .i64 0) (.int .i64 0) (.bool false)
    clear m0 m1 m2 m3 m4 m5 m6 m7 m8 m9 m10 m11 m12 r0 r1 r2 r3 r4 r5 r6 r7 r8 r9 r10 r11 r12 FR
    revert hx hCx
    generalize World.setCell _ ⟨w.heap.size + 1, 12, none⟩ (.bool false) = w9
    intro hx hCx
    obtain ⟨r0, r1, r2, r3, r4, r5, r6, r7, r8, r9, r10, r11, r12⟩ := box13 hx
    refine bodyPost_ret (v := .agg #[.int .i64 3, .int .i64 (kB : Int), .int .i64 (kD : Int), .int .i64 (1 + (z : Int)), .int .i64 0, .int .i64 0, .int .i64 0, .int .i64 0, .string ⟨#[]⟩, .slice none 0 0, .int .i64 0, .int .i64 0, .bool false]) (by simp [results, Tryd.results7, go_sem, r0, r1, r2, r3, r4, r5, r6, r7, r8, r9, r10, r11, r12]) rfl ?_
    exact ⟨.ack kB kD (1 + z), none, 0, 0, by simp only [Ms.val, Int.natCast_add]; rfl, ⟨by omega, by omega, by omega⟩, ⟨rfl, rfl, rfl⟩, (HE.out.2.trans (hCx.mono (fun _ _ e => by omega))).below (fun _ e => e) (Nat.le_refl _)⟩
  · skip
    have HL := commandS (ht.below (hCc.below (fun _ e => e) (Nat.le_refl _))) (hp.below (hCc.below (fun _ e => e) (Nat.le_refl _))) hpn f0 f1 f2 f3 f4 f5 f6 f7 f8 f9 on
    obtain ⟨t0, t1, t2, t3, t4, t5, t6, t7, t8, t9, t10, t11, t12⟩ := box13 hTc
    obtain ⟨m0, m1, m2, m3, m4, m5, m6, m7, m8, m9, m10, m11, m12⟩ := box13 hMc
    go_wp2_with fail
    refine HL.mono ?_
    rintro e w10 ⟨x, b, m, cp, rfl, hok, hrw, hbl, hb10⟩
    clear HL 
    obtain ⟨o, hop⟩ : ∃ o, x.op = o := ⟨_, rfl⟩
    rw [hop] at hrw
    rw [hop]
    obtain ⟨oc, on_, ok, op, os, ol, ox, oy, oz⟩ := o
    simp only [opVal]
    simp only at hrw
    have HOK : Hid x.Ok := hok
    have hMl := (Array.getElem?_eq_some_iff.1 hMc).1
    have hge : ∀ g, b = some g → w.heap.size + 1 + 1 < g.block ∧ g.block < w10.heap.size := fun g e => by have := hbl g e; omega
    clear hok hbl hMl
    clear t0 t1 t2 t3 t4 t5 t6 t7 t8 t9 t10 t11 t12 m0 m1 m2 m3 m4 m5 m6 m7 m8 m9 m10 m11 m12
    have hT10 := (hb10.block _ (Array.getElem?_eq_some_iff.1 hTc).1).trans hTc
    have hR10 := (hb10.block _ (Array.getElem?_eq_some_iff.1 hRc).1).trans hRc
    have hM10 := (hb10.block _ (Array.getElem?_eq_some_iff.1 hMc).1).trans hMc
    have hC10 := hCc.trans (Chg.of_below hb10)
    obtain ⟨hx11, hS11⟩ := set9b hM10 (.int .i64 oc) (.int .i64 on_) (.int .i64 ok) (.int .i64 op) (.string os) (.slice b m cp) (.int .i64 ox) (.int .i64 oy) (.bool oz)
    obtain ⟨w11, ew11⟩ : ∃ W, (((((((((w10.setCell ⟨w.heap.size + 1 + 1, 4, none⟩ (.int .i64 oc)).setCell ⟨w.heap.size + 1 + 1, 5, none⟩ (.int .i64 on_)).setCell ⟨w.heap.size + 1 + 1, 6, none⟩ (.int .i64 ok)).setCell ⟨w.heap.size + 1 + 1, 7, none⟩ (.int .i64 op)).setCell ⟨w.heap.size + 1 + 1, 8, none⟩ (.string os)).setCell ⟨w.heap.size + 1 + 1, 9, none⟩ (.slice b m cp)).setCell ⟨w.heap.size + 1 + 1, 10, none⟩ (.int .i64 ox)).setCell ⟨w.heap.size + 1 + 1, 11, none⟩ (.int .i64 oy)).setCell ⟨w.heap.size + 1 + 1, 12, none⟩ (.bool oz)) = W := ⟨_, rfl⟩
    rw [ew11] at hx11 hS11
    have hM11 : w11.heap[w.heap.size + 1 + 1]? = some (.cells #[.int .i64 4, .int .i64 (kB : Int), .int .i64 (kD : Int), .int .i64 0, .int .i64 oc, .int .i64 on_, .int .i64 ok, .int .i64 op, .string os, .slice b m cp, .int .i64 ox, .int .i64 oy, .bool oz] 37) := hx11
    have hT11 := hS11.block hT10 (by omega)
    have hR11 := hS11.block hR10 (by omega)
    have hC11 : Chg (fun g => w.heap.size ≤ g) w w11 := hC10.trans (hS11.mono (fun _ _ e => by omega))
    have hrw11 := hrw.chg hS11 (fun g e => by have := hge g e; omega)
    have HRW : Hid (Rw rangeV 2 w11 b m cp ol ∧ w10.heap.size ≤ w11.heap.size) := ⟨hrw11, hS11.size⟩
    clear hrw hrw11
    obtain ⟨m0, m1, m2, m3, m4, m5, m6, m7, m8, m9, m10, m11, m12⟩ := box13 hM10
    have FM : ∀ i, w10.frozen? ⟨w.heap.size + 1 + 1, i, none⟩ = false := fun i => Lib.frozen_of_heap hM10 i
    clear hx11 hS11
    have HE : Hid (w11.heap[w.heap.size + 1]? = some (.cells #[.int .i64 0, .int .i64 0, .int .i64 0, .int .i64 0, .int .i64 0, .int .i64 0, .int .i64 0, .int .i64 0, .string ⟨#[]⟩, .slice none 0 0, .int .i64 0, .int .i64 0, .bool false] 37) ∧ Chg (fun g => w.heap.size ≤ g) w w11) := ⟨hR11, hC11⟩
    have FR : ∀ i, w11.frozen? ⟨w.heap.size + 1, i, none⟩ = false := fun i => Lib.frozen_of_heap hR11 i
    obtain ⟨n0, n1, n2, n3, n4, n5, n6, n7, n8, n9, n10, n11, n12⟩ := box13 hM11
    obtain ⟨r0, r1, r2, r3, r4, r5, r6, r7, r8, r9, r10, r11, r12⟩ := box13 hR11
    clear hR11 hM11 hC11
    go_wp2_with fail
    obtain ⟨hx, hCx⟩ := set13 HE.out.1 (.int .i64 4) (.int .i64 (kB : Int)) (.int .i64 (kD : Int)) (.int .i64 0) (.int .i64 oc) (.int .i64 on_) (.int .i64 ok) (.int .i64 op) (.string os) (.slice b m cp) (.int .i64 ox) (.int .i64 oy) (.bool oz)
    clear n0 n1 n2 n3 n4 n5 n6 n7 n8 n9 n10 n11 n12 r0 r1 r2 r3 r4 r5 r6 r7 r8 r9 r10 r11 r12 FR
    revert hx hCx
    generalize World.setCell _ ⟨w.heap.size + 1, 12, none⟩ (.bool oz) = w9
    intro hx hCx
    obtain ⟨r0, r1, r2, r3, r4, r5, r6, r7, r8, r9, r10, r11, r12⟩ := box13 hx
    refine bodyPost_ret (v := .agg #[.int .i64 4, .int .i64 (kB : Int), .int .i64 (kD : Int), .int .i64 0, .int .i64 oc, .int .i64 on_, .int .i64 ok, .int .i64 op, .string os, .slice b m cp, .int .i64 ox, .int .i64 oy, .bool oz]) (by simp [results, Tryd.results7, go_sem, r0, r1, r2, r3, r4, r5, r6, r7, r8, r9, r10, r11, r12]) rfl ?_
    exact ⟨.cast kB kD x, b, m, cp, by simp only [Ms.val, msgV, msgA, hop], ⟨by omega, by omega, HOK.out⟩, ⟨hop ▸ HRW.out.1.chg hCx (fun g e => by have := hge g e; omega), fun g e => by have := hge g e; have := HRW.out.2; have := hCx.size; omega⟩, (HE.out.2.trans (hCx.mono (fun _ _ e => by omega))).below (fun _ e => e) (Nat.le_refl _)⟩
end Go.Proofs.YtkdhcokefnffaaaDoor
