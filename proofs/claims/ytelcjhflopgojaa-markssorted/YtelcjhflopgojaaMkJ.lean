import Derived.Test.YtelcjhflopgojaaMkI
import Derived.Test.YtelcjhflopgojaaLayF
import Derived.Lib.Bytealg
/-! The order of marks: cmp.Compare, cmp.Or, strings.Compare, compare. -/
namespace Go.Proofs.Ytelcjhflopgojaa
open Go.RowKit Go.Lib Go.Sort
set_option maxRecDepth 100000

/-- wpAnyH_take, the slot written out. -/
theorem takeD {P : Program} {md : Region.Mode} {ops : Array Oper} {Q : Exit → Act → World → Prop} {S : World → Prop} {i : Nat} {oi : Oper} {d : Option Nat} {v : Value} {fuel : Nat} {listed : Array Bool} {a : Act} {w : World} (hi : ops[i]? = some oi) (hd : oi.dst = d)
    (hs : Region.noSelect ops = true) (hf : Region.free md ops listed i = true) (hr : (Region.ready md ops listed).contains i = true)
    (hQ : ∀ c a w, Q (.panic c) (a.put oi.dst v) w → Q (.panic c) a w) (hy : YieldsIf P ops S oi v a) (hS : S w)
    (h : wpAnyH P md ops Q S fuel (listed.setIfInBounds i true) (a.put d v) w) : wpAnyH P md ops Q S (fuel + 1) listed a w := by
  subst hd
  exact wpAnyH_take hi hs hf hr hQ hy hS h
def int1 (x : Int) : List Value := [.int .i64 x]
theorem layI1 : Lay int1 1 := ⟨fun _ => rfl, by decide, fun x u hu => by simp [int1] at hu; subst hu; rfl⟩
set_option maxHeartbeats 1000000 in
theorem cmpString_any (a b : ByteArray) (w : World) : Calls Try.prog 42 #[.string a, .string b] w fun e w' => e = .returned (.int .i64 (Lib.compareBytes a.data.toList b.data.toList)) ∧ w' = w := by
  go_enter Try.func42, Try.ntmps42
  go_wp2
  rw [run_callFunc_extern Try.func48 (by kernel_rfl) (by kernel_rfl) (by kernel_rfl) (e := Extern.BytealgCompare.compare) (by kernel_rfl), Lib.run_compareString]
  simp only [Result.andThen]
  rw [Oper.upon_value]
  go_wp2
  go_ret
  exact ⟨rfl, rfl⟩
set_option maxHeartbeats 1000000 in
theorem compare_any (a b : ByteArray) (w : World) : Calls Try.prog 30 #[.string a, .string b] w fun e w' => e = .returned (.int .i64 (Lib.compareBytes a.data.toList b.data.toList)) ∧ w' = w := by
  have HC : Hid (Calls Try.prog 42 #[.string a, .string b] w fun e w' => e = .returned (.int .i64 (Lib.compareBytes a.data.toList b.data.toList)) ∧ w' = w) := cmpString_any a b w
  generalize Lib.compareBytes a.data.toList b.data.toList = r at *
  go_enter Try.func30, Try.ntmps30
  go_wp2_with fail
  refine HC.out.mono ?_
  rintro e w1 ⟨rfl, rfl⟩
  go_wp2_with fail
  go_ret
  exact ⟨rfl, rfl⟩

theorem rw_lits {α : Type} {f : α → List Value} {k : Nat} (hf : Lay f k) (w : World) (l : List α) (cs : Array Value) (hcs : flatF f l = cs.toList) (t : TypeId) (n : Nat) (hn : l.length = n) (hl : n ≤ 1000) : Rw f k (w.alloc (.cells cs t)) (some ⟨w.heap.size, 0, none⟩) n n l := by
  have hh := heap_alloc_new w (.cells cs t)
  refine ⟨hn, ⟨Nat.le_refl _, by simp only [maxLen]; omega⟩, fun _ => ⟨w.heap.size, 0, rfl, (Array.getElem?_eq_some_iff.1 hh).1, fun j x hj i v hv => ?_⟩⟩
  have hi : i < k := by have := (List.getElem?_eq_some_iff.1 hv).1; rw [hf.len] at this; exact this
  have h1 := flatF_get hf l j x hj i hi
  rw [hcs] at h1
  simp only [World.cell?, hh, Nat.zero_add]
  rw [hv] at h1
  simpa using h1
def cmpI (a b : Int) : Int := if a < b then -1 else if b < a then 1 else 0
set_option maxHeartbeats 1000000 in
theorem isNaN_any (a : Int) (w : World) : Calls Try.prog 41 #[.int .i64 a] w fun e w' => e = .returned (.bool false) ∧ w' = w := by
  go_enter Try.func41, Try.ntmps41
  have h : (a != a) = false := by simp
  go_wp2_with fail
  go_ret
  exact ⟨rfl, rfl⟩
set_option maxHeartbeats 2000000 in
theorem cmpI_any (a b : Int) (w : World) : Calls Try.prog 29 #[.int .i64 a, .int .i64 b] w fun e w' => e = .returned (.int .i64 (cmpI a b)) ∧ w' = w := by
  have HA : Hid (∀ a w, Calls Try.prog 41 #[.int .i64 a] w fun e w' => e = .returned (.bool false) ∧ w' = w) := isNaN_any
  obtain ⟨c, hc⟩ : ∃ c, cmpI a b = c := ⟨_, rfl⟩
  have HC : Hid (cmpI a b = c) := hc
  rw [hc]
  clear hc
  go_enter Try.func29, Try.ntmps29
  go_wp2_with fail
  refine (HA.out _ _).mono ?_
  rintro e w1 ⟨rfl, rfl⟩
  go_wp2_with fail
  refine (HA.out _ _).mono ?_
  rintro e w2 ⟨rfl, rfl⟩
  by_cases h1 : a < b
  · have z1 : decide (a < b) = true := decide_eq_true h1
    obtain rfl : c = -1 := by rw [← HC.out, cmpI, if_pos h1]
    clear HC
    go_wp2_with fail
    go_ret
    exact ⟨rfl, rfl⟩
  · have z1 : decide (a < b) = false := decide_eq_false h1
    by_cases h2 : b < a
    · have z2 : decide (b < a) = true := decide_eq_true h2
      have z3 : decide (a > b) = true := decide_eq_true h2
      obtain rfl : c = 1 := by rw [← HC.out, cmpI, if_neg h1, if_pos h2]
      clear HC
      go_wp2_with fail
      go_ret
      exact ⟨rfl, rfl⟩
    · have z2 : decide (b < a) = false := decide_eq_false h2
      have z3 : decide (a > b) = false := decide_eq_false h2
      obtain rfl : c = 0 := by rw [← HC.out, cmpI, if_neg h1, if_neg h2]
      clear HC
      go_wp2_with fail
      go_ret
      exact ⟨rfl, rfl⟩
def orL : List Int → Int
  | [] => 0
  | x :: l => if x = 0 then orL l else x
theorem orL_drop {l : List Int} {j : Nat} {x : Int} (h : l[j]? = some x) : orL (l.drop j) = if x = 0 then orL (l.drop (j + 1)) else x := by
  obtain ⟨hj, rfl⟩ := List.getElem?_eq_some_iff.1 h
  rw [List.drop_eq_getElem_cons hj]
  rfl
set_option maxHeartbeats 2000000 in
theorem or_any {w : World} {g n cap : Nat} {l : List Int} (h : Rw int1 1 w (some ⟨g, 0, none⟩) n cap l) (hn : n ≤ 1000) : Calls Try.prog 28 #[.slice (some ⟨g, 0, none⟩) n cap] w fun e w' => e = .returned (.int .i64 (orL l)) ∧ w' = w := by
  have hlen := h.len
  have HC : Hid (∀ j, j < n → ∃ x, l[j]? = some x ∧ w.cell? ⟨g, j, none⟩ = some (.int .i64 x)) := fun j hj => by
    obtain ⟨g', off', x, ea, hg', hx, hc⟩ := h.at j hj
    simp only [Option.some.injEq, Addr.mk.injEq, and_true] at ea
    obtain ⟨rfl, rfl⟩ := ea
    have := hc 0 _ rfl
    simp only [Nat.mul_one, Nat.zero_add, Nat.add_zero] at this
    exact ⟨x, hx, this⟩
  obtain ⟨r, hr⟩ : ∃ r, orL l = r := ⟨_, rfl⟩
  have HR : Hid (orL l = r ∧ l.length = n) := ⟨hr, hlen⟩
  rw [hr]
  clear h hr hlen
  go_enter Try.func28, Try.ntmps28
  go_wp2_with fail
  go_loopw [8] (fun v w' => ∃ j : Nat, j ≤ n ∧ v = .int .i64 (j : Int) ∧ Hid (orL (l.drop j) = r) ∧ w' = w) (fun v _ => match v with | .int _ i => n - i.toNat | _ => 0)
  case atStart => exact ⟨0, Nat.zero_le _, rfl, HR.out.1, rfl⟩
  case round =>
    obtain ⟨j, hj, rfl, HS, hw⟩ := hrel
    obtain rfl := hw.symm
    by_cases hjn : j < n
    · obtain ⟨x, hx, hc⟩ := HC.out j hjn
      have hd := orL_drop hx
      rw [HS.out] at hd
      have z1 : decide ((j : Int) < n) = true := decide_eq_true (by omega)
      have z2 : decide (j < n) = true := decide_eq_true hjn
      have y1 : IntKind.i64.wrap ((j : Int) + 1) = ((j + 1 : Nat) : Int) := by rw [IntWalk.i64_in _ (by omega)]; omega
      by_cases hz : x = 0
      · rw [if_pos hz] at hd
        have HD : Hid (orL (l.drop (j + 1)) = r) := hd.symm
        have z3 : (x != 0) = false := by rw [hz]; rfl
        have z4 : (x == 0) = true := by rw [hz]; rfl
        clear hd HS hx
        go_wp2_with fail
        exact ⟨⟨j + 1, by omega, by go_num, HD.out, by simp⟩, by dsimp only; omega⟩
      · rw [if_neg hz] at hd
        have z4 : (x == 0) = false := beq_eq_false_iff_ne.2 hz
        have z3 : (x != 0) = true := by rw [bne, z4]; rfl
        subst hd
        clear HS hx HR
        go_wp2_with fail
        go_ret
        exact ⟨rfl, rfl⟩
    · have hje : j = n := by omega
      subst hje
      obtain rfl : r = 0 := by
        have := HS.out
        rw [List.drop_of_length_le (by rw [HR.out.2]; exact Nat.le_refl _)] at this
        exact this.symm
      have z1 : decide ((j : Int) < j) = false := decide_eq_false (by omega)
      clear HS hj HR
      go_wp2_with fail
      go_ret
      exact ⟨rfl, rfl⟩
theorem three_grow (W : World) (A B C : Obj) : ((W.alloc A).alloc B).drew.alloc C = grow (W.drewN 1) (#[A] ++ #[B] ++ #[C]) := by
  rw [alloc_eq_grow, alloc_eq_grow, alloc_eq_grow, show (grow (grow W #[A]) #[B]).drew = grow (grow W.drew #[A]) #[B] from rfl, grow_grow, grow_grow]
  rfl
/-- The order of marks. -/
def cmpM (x y : Mk) : Int := orL [cmpI x.lo y.lo, cmpI x.hi y.hi, Lib.compareBytes x.nm y.nm]
set_option maxHeartbeats 4000000 in
theorem compareM (x y : Mk) (W : World) : Calls Try.prog 24 #[.agg #[.string ⟨x.nm.toArray⟩, .int .i64 (x.lo : Int), .int .i64 (x.hi : Int)], .agg #[.string ⟨y.nm.toArray⟩, .int .i64 (y.lo : Int), .int .i64 (y.hi : Int)]] W fun e w' => e = .returned (.int .i64 (cmpM x y)) ∧ ∃ q os', w' = grow (W.drewN q) os' := by
  obtain ⟨x1, hx1⟩ : ∃ i : Int, (x.lo : Int) = i := ⟨_, rfl⟩
  obtain ⟨x2, hx2⟩ : ∃ i : Int, (x.hi : Int) = i := ⟨_, rfl⟩
  obtain ⟨y1, hy1⟩ : ∃ i : Int, (y.lo : Int) = i := ⟨_, rfl⟩
  obtain ⟨y2, hy2⟩ : ∃ i : Int, (y.hi : Int) = i := ⟨_, rfl⟩
  have H1 : Hid (∀ W, Calls Try.prog 29 #[.int .i64 x1, .int .i64 y1] W fun e w' => e = .returned (.int .i64 (cmpI x.lo y.lo)) ∧ w' = W) := fun W => by rw [← hx1, ← hy1]; exact cmpI_any _ _ W
  have H2 : Hid (∀ W, Calls Try.prog 29 #[.int .i64 x2, .int .i64 y2] W fun e w' => e = .returned (.int .i64 (cmpI x.hi y.hi)) ∧ w' = W) := fun W => by rw [← hx2, ← hy2]; exact cmpI_any _ _ W
  have H3 : Hid (∀ W, Calls Try.prog 30 #[.string ⟨x.nm.toArray⟩, .string ⟨y.nm.toArray⟩] W fun e w' => e = .returned (.int .i64 (Lib.compareBytes x.nm y.nm)) ∧ w' = W) := fun W => compare_any _ _ W
  rw [hx1, hx2, hy1, hy2]
  unfold cmpM
  generalize cmpI (x.lo : Int) (y.lo : Int) = r1 at *
  generalize cmpI (x.hi : Int) (y.hi : Int) = r2 at *
  generalize Lib.compareBytes x.nm y.nm = r3 at *
  have H4 : Hid (∀ W : World, Calls Try.prog 28 #[.slice (some ⟨W.heap.size, 0, none⟩) 3 3] (W.alloc (.cells #[.int .i64 r1, .int .i64 r2, .int .i64 r3] 3)) fun e w' => e = .returned (.int .i64 (orL [r1, r2, r3])) ∧ w' = W.alloc (.cells #[.int .i64 r1, .int .i64 r2, .int .i64 r3] 3)) := fun W => or_any (rw_lits layI1 W [r1, r2, r3] _ rfl _ 3 rfl (by decide)) (by decide)
  generalize orL [r1, r2, r3] = r at *
  generalize (⟨x.nm.toArray⟩ : ByteArray) = s1 at *
  generalize (⟨y.nm.toArray⟩ : ByteArray) = s2 at *
  obtain ⟨A, hA⟩ : ∃ A : Obj, .cells #[.string s1, .int .i64 x1, .int .i64 x2] 34 = A := ⟨_, rfl⟩
  obtain ⟨B, hB⟩ : ∃ B : Obj, .cells #[.string s2, .int .i64 y1, .int .i64 y2] 34 = B := ⟨_, rfl⟩
  have q0 : ((W.alloc A).alloc B).heap[W.heap.size]? = some A := ((MapKept.heap_alloc (W.alloc A) B).2 _ (by rw [World.size_alloc]; omega)).trans (MapKept.heap_alloc W A).1
  have q1 : ((W.alloc A).alloc B).heap[W.heap.size + 1]? = some B := by
    have := (MapKept.heap_alloc (W.alloc A) B).1
    rw [World.size_alloc] at this
    exact this
  rw [← hA] at q0
  rw [← hB] at q1
  obtain ⟨a0, a1, a2⟩ := box3 q0
  obtain ⟨b0, b1, b2⟩ := box3 q1
  subst hA hB
  have HI : Hid (((W.alloc (.cells #[.string s1, .int .i64 x1, .int .i64 x2] 34)).alloc (.cells #[.string s2, .int .i64 y1, .int .i64 y2] 34)).cell? ⟨W.heap.size, 0, none⟩ = some (.string s1) ∧ ((W.alloc (.cells #[.string s1, .int .i64 x1, .int .i64 x2] 34)).alloc (.cells #[.string s2, .int .i64 y1, .int .i64 y2] 34)).cell? ⟨W.heap.size, 1, none⟩ = some (.int .i64 x1) ∧ ((W.alloc (.cells #[.string s1, .int .i64 x1, .int .i64 x2] 34)).alloc (.cells #[.string s2, .int .i64 y1, .int .i64 y2] 34)).cell? ⟨W.heap.size, 2, none⟩ = some (.int .i64 x2) ∧ ((W.alloc (.cells #[.string s1, .int .i64 x1, .int .i64 x2] 34)).alloc (.cells #[.string s2, .int .i64 y1, .int .i64 y2] 34)).cell? ⟨W.heap.size + 1, 0, none⟩ = some (.string s2) ∧ ((W.alloc (.cells #[.string s1, .int .i64 x1, .int .i64 x2] 34)).alloc (.cells #[.string s2, .int .i64 y1, .int .i64 y2] 34)).cell? ⟨W.heap.size + 1, 1, none⟩ = some (.int .i64 y1) ∧ ((W.alloc (.cells #[.string s1, .int .i64 x1, .int .i64 x2] 34)).alloc (.cells #[.string s2, .int .i64 y1, .int .i64 y2] 34)).cell? ⟨W.heap.size + 1, 2, none⟩ = some (.int .i64 y2)) := ⟨a0, a1, a2, b0, b1, b2⟩
  clear hx1 hx2 hy1 hy2 q0 q1 a0 a1 a2 b0 b1 b2
  go_enter Try.func24, Try.ntmps24
  go_wp2_with fail
  refine wp_region_held_drew (S := (fun w => w.cell? ⟨W.heap.size, 0, none⟩ = some (.string s1) ∧ w.cell? ⟨W.heap.size, 1, none⟩ = some (.int .i64 x1) ∧ w.cell? ⟨W.heap.size, 2, none⟩ = some (.int .i64 x2) ∧ w.cell? ⟨W.heap.size + 1, 0, none⟩ = some (.string s2) ∧ w.cell? ⟨W.heap.size + 1, 1, none⟩ = some (.int .i64 y1) ∧ w.cell? ⟨W.heap.size + 1, 2, none⟩ = some (.int .i64 y2))) (by kernel_rfl) ?hS1 (fun hHeld => ?rest1)
  case hS1 => exact HI.out
  obtain ⟨V, hV⟩ : ∃ V, ((W.alloc (.cells #[.string s1, .int .i64 x1, .int .i64 x2] 34)).alloc (.cells #[.string s2, .int .i64 y1, .int .i64 y2] 34)).drew = V := ⟨_, rfl⟩
  rw [hV] at hHeld ⊢
  have HV : Hid (((W.alloc (.cells #[.string s1, .int .i64 x1, .int .i64 x2] 34)).alloc (.cells #[.string s2, .int .i64 y1, .int .i64 y2] 34)).drew = V) := hV
  have HW : Hid (W.heap.size + 1 < V.heap.size) := by show _ < _; rw [← hV]; simp [World.drew]
  clear hV HI
  refine takeD (i := 0) (d := some 5) (v := ?vT2) rfl rfl (by kernel_rfl) (by kernel_rfl) (by kernel_rfl) (fun _ _ _ h => h) (Or.inl ⟨by rfl, ?hyT2⟩) (by assumption) ?rstT2
  case hyT2 => (intro w hSw; (try dsimp only at hSw); obtain ⟨k0, k1, k2, k3, k4, k5⟩ := hSw; go_simp; (try with_reducible rfl))
  try simp only [Act.put, List.setIfInBounds_toArray, List.set_cons_zero, List.set_cons_succ]
  refine takeD (i := 1) (d := some 6) (v := ?vT3) rfl rfl (by kernel_rfl) (by kernel_rfl) (by kernel_rfl) (fun _ _ _ h => h) (Or.inl ⟨by rfl, ?hyT3⟩) (by assumption) ?rstT3
  case hyT3 => (intro w hSw; (try dsimp only at hSw); obtain ⟨k0, k1, k2, k3, k4, k5⟩ := hSw; go_simp; (try with_reducible rfl))
  try simp only [Act.put, List.setIfInBounds_toArray, List.set_cons_zero, List.set_cons_succ]
  refine takeD (i := 2) (d := some 7) (v := ?vT4) rfl rfl (by kernel_rfl) (by kernel_rfl) (by kernel_rfl) (fun _ _ _ h => h) (Or.inl ⟨by rfl, ?hyT4⟩) (by assumption) ?rstT4
  case hyT4 => (intro w hSw; (try dsimp only at hSw); obtain ⟨k0, k1, k2, k3, k4, k5⟩ := hSw; go_simp; (try with_reducible rfl))
  try simp only [Act.put, List.setIfInBounds_toArray, List.set_cons_zero, List.set_cons_succ]
  refine takeD (i := 3) (d := some 8) (v := ?vT5) rfl rfl (by kernel_rfl) (by kernel_rfl) (by kernel_rfl) (fun _ _ _ h => h) (Or.inl ⟨by rfl, ?hyT5⟩) (by assumption) ?rstT5
  case hyT5 => (intro w hSw; (try dsimp only at hSw); obtain ⟨k0, k1, k2, k3, k4, k5⟩ := hSw; go_simp; (try with_reducible rfl))
  try simp only [Act.put, List.setIfInBounds_toArray, List.set_cons_zero, List.set_cons_succ]
  refine takeD (i := 5) (d := some 10) (v := ?vT6) rfl rfl (by kernel_rfl) (by kernel_rfl) (by kernel_rfl) (fun _ _ _ h => h) (Or.inl ⟨by rfl, ?hyT6⟩) (by assumption) ?rstT6
  case hyT6 => (intro w hSw; (try dsimp only at hSw); obtain ⟨k0, k1, k2, k3, k4, k5⟩ := hSw; go_simp; (try with_reducible rfl))
  try simp only [Act.put, List.setIfInBounds_toArray, List.set_cons_zero, List.set_cons_succ]
  refine takeD (i := 6) (d := some 11) (v := ?vT7) rfl rfl (by kernel_rfl) (by kernel_rfl) (by kernel_rfl) (fun _ _ _ h => h) (Or.inl ⟨by rfl, ?hyT7⟩) (by assumption) ?rstT7
  case hyT7 => (intro w hSw; (try dsimp only at hSw); obtain ⟨k0, k1, k2, k3, k4, k5⟩ := hSw; go_simp; (try with_reducible rfl))
  try simp only [Act.put, List.setIfInBounds_toArray, List.set_cons_zero, List.set_cons_succ]
  refine takeD (i := 7) (d := some 12) (v := ?vT8) rfl rfl (by kernel_rfl) (by kernel_rfl) (by kernel_rfl) (fun _ _ _ h => h) (Or.inl ⟨by rfl, ?hyT8⟩) (by assumption) ?rstT8
  case hyT8 => (intro w hSw; (try dsimp only at hSw); obtain ⟨k0, k1, k2, k3, k4, k5⟩ := hSw; go_simp; (try with_reducible rfl))
  try simp only [Act.put, List.setIfInBounds_toArray, List.set_cons_zero, List.set_cons_succ]
  refine takeD (i := 8) (d := some 13) (v := ?vT9) rfl rfl (by kernel_rfl) (by kernel_rfl) (by kernel_rfl) (fun _ _ _ h => h) (Or.inl ⟨by rfl, ?hyT9⟩) (by assumption) ?rstT9
  case hyT9 => (intro w hSw; (try dsimp only at hSw); obtain ⟨k0, k1, k2, k3, k4, k5⟩ := hSw; go_simp; (try with_reducible rfl))
  try simp only [Act.put, List.setIfInBounds_toArray, List.set_cons_zero, List.set_cons_succ]
  refine takeD (i := 10) (d := some 15) (v := ?vT10) rfl rfl (by kernel_rfl) (by kernel_rfl) (by kernel_rfl) (fun _ _ _ h => h) (Or.inl ⟨by rfl, ?hyT10⟩) (by assumption) ?rstT10
  case hyT10 => (intro w hSw; (try dsimp only at hSw); obtain ⟨k0, k1, k2, k3, k4, k5⟩ := hSw; go_simp; (try with_reducible rfl))
  try simp only [Act.put, List.setIfInBounds_toArray, List.set_cons_zero, List.set_cons_succ]
  refine takeD (i := 11) (d := some 16) (v := ?vT11) rfl rfl (by kernel_rfl) (by kernel_rfl) (by kernel_rfl) (fun _ _ _ h => h) (Or.inl ⟨by rfl, ?hyT11⟩) (by assumption) ?rstT11
  case hyT11 => (intro w hSw; (try dsimp only at hSw); obtain ⟨k0, k1, k2, k3, k4, k5⟩ := hSw; go_simp; (try with_reducible rfl))
  try simp only [Act.put, List.setIfInBounds_toArray, List.set_cons_zero, List.set_cons_succ]
  refine takeD (i := 12) (d := some 17) (v := ?vT12) rfl rfl (by kernel_rfl) (by kernel_rfl) (by kernel_rfl) (fun _ _ _ h => h) (Or.inl ⟨by rfl, ?hyT12⟩) (by assumption) ?rstT12
  case hyT12 => (intro w hSw; (try dsimp only at hSw); obtain ⟨k0, k1, k2, k3, k4, k5⟩ := hSw; go_simp; (try with_reducible rfl))
  try simp only [Act.put, List.setIfInBounds_toArray, List.set_cons_zero, List.set_cons_succ]
  refine takeD (i := 13) (d := some 18) (v := ?vT13) rfl rfl (by kernel_rfl) (by kernel_rfl) (by kernel_rfl) (fun _ _ _ h => h) (Or.inl ⟨by rfl, ?hyT13⟩) (by assumption) ?rstT13
  case hyT13 => (intro w hSw; (try dsimp only at hSw); obtain ⟨k0, k1, k2, k3, k4, k5⟩ := hSw; go_simp; (try with_reducible rfl))
  try simp only [Act.put, List.setIfInBounds_toArray, List.set_cons_zero, List.set_cons_succ]
  refine wpAnyH_ready (rs := [4]) (by kernel_rfl) (by simp) ?_
  refine AllReadyH.cons rfl (fun K hK => ?_) AllReadyH.nil
  go_simp
  refine (H1.out _).mono ?_
  rintro e w1 ⟨rfl, hww⟩
  obtain rfl := hww.symm
  clear hww
  have hK0 := hHeld; clear hHeld
  refine hK.out _ _ ?hS14 (fun hHeld => ?rest14)
  case hS14 => exact hK0
  clear hK K
  try simp only [Act.put, List.setIfInBounds_toArray, List.set_cons_zero, List.set_cons_succ]
  refine wpAnyH_ready (rs := [9]) (by kernel_rfl) (by simp) ?_
  refine AllReadyH.cons rfl (fun K hK => ?_) AllReadyH.nil
  go_simp
  refine (H2.out _).mono ?_
  rintro e w1 ⟨rfl, hww⟩
  obtain rfl := hww.symm
  clear hww
  have hK0 := hHeld; clear hHeld
  refine hK.out _ _ ?hS15 (fun hHeld => ?rest15)
  case hS15 => exact hK0
  clear hK K
  try simp only [Act.put, List.setIfInBounds_toArray, List.set_cons_zero, List.set_cons_succ]
  refine wpAnyH_ready (rs := [14]) (by kernel_rfl) (by simp) ?_
  refine AllReadyH.cons rfl (fun K hK => ?_) AllReadyH.nil
  go_simp
  refine (H3.out _).mono ?_
  rintro e w1 ⟨rfl, hww⟩
  obtain rfl := hww.symm
  clear hww
  have hK0 := hHeld; clear hHeld
  refine hK.out _ _ ?hS16 (fun hHeld => ?rest16)
  case hS16 => exact hK0
  clear hK K
  try simp only [Act.put, List.setIfInBounds_toArray, List.set_cons_zero, List.set_cons_succ]
  refine wpAnyH_ready (rs := [15]) (by kernel_rfl) (by simp) ?_
  refine AllReadyH.cons rfl (fun K hK => ?_) AllReadyH.nil
  go_simp
  have hK0 := hHeld; clear hHeld
  refine hK.out _ _ ?hS17 (fun hHeld => ?rest17)
  case hS17 => (have hb : Below V.heap.size V (V.alloc (.cells #[.int .i64 r1, .int .i64 r2, .int .i64 r3] 3)) := (Below.refl _ _).alloc (Nat.le_refl _) _; have := HW.out; obtain ⟨k0, k1, k2, k3, k4, k5⟩ := hK0; exact ⟨(hb.cell (p := ⟨W.heap.size, 0, none⟩) (by simp only; omega)).trans k0, (hb.cell (p := ⟨W.heap.size, 1, none⟩) (by simp only; omega)).trans k1, (hb.cell (p := ⟨W.heap.size, 2, none⟩) (by simp only; omega)).trans k2, (hb.cell (p := ⟨W.heap.size + 1, 0, none⟩) (by simp only; omega)).trans k3, (hb.cell (p := ⟨W.heap.size + 1, 1, none⟩) (by simp only; omega)).trans k4, (hb.cell (p := ⟨W.heap.size + 1, 2, none⟩) (by simp only; omega)).trans k5⟩)
  clear hK K
  try simp only [Act.put, List.setIfInBounds_toArray, List.set_cons_zero, List.set_cons_succ]
  refine wpAnyH_ready (rs := [16]) (by kernel_rfl) (by simp) ?_
  refine AllReadyH.cons rfl (fun K hK => ?_) AllReadyH.nil
  go_simp
  refine (H4.out _).mono ?_
  rintro e w1 ⟨rfl, rfl⟩
  have hK0 := hHeld; clear hHeld
  refine hK.out _ _ ?hS18 (fun hHeld => ?rest18)
  case hS18 => exact hK0
  clear hK K
  try simp only [Act.put, List.setIfInBounds_toArray, List.set_cons_zero, List.set_cons_succ]
  refine takeD (i := 17) (d := some 4) (v := ?vT19) rfl rfl (by kernel_rfl) (by kernel_rfl) (by kernel_rfl) (fun _ _ _ h => h) (Or.inl ⟨by rfl, ?hyT19⟩) (by assumption) ?rstT19
  case hyT19 => (intro w hSw; (try dsimp only at hSw); go_simp; (try with_reducible rfl))
  try simp only [Act.put, List.setIfInBounds_toArray, List.set_cons_zero, List.set_cons_succ]
  refine wpAnyH_done (by kernel_rfl) ?_ _
  go_wp2_with fail
  go_ret
  exact ⟨rfl, 1, _, by rw [← HV.out]; exact three_grow _ _ _ _⟩
end Go.Proofs.Ytelcjhflopgojaa
