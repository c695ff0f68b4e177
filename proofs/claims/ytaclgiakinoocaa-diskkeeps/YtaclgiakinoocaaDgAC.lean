import Derived.Test.YtaclgiakinoocaaDaK
import Derived.Lib.Bytealg
/-! The reference's disk in memory. -/
namespace Go.Proofs.Ytaclgiakinoocaa
open Go.RowKit Go.Lib
set_option maxRecDepth 100000

/-- A file of the reference: its name, where its bytes lie, its bytes, how many are durable. -/
structure Rf where
  nm : List UInt8
  a : Option Addr
  cap : Nat
  bs : List UInt8
  syn : Nat
def Rf.fl (x : Rf) : Fl := ⟨x.nm, x.bs, x.syn⟩
def rfV (x : Rf) : List Value := [.string ⟨x.nm.toArray⟩, .bool true, .slice x.a x.bs.length x.cap, .int .i64 (x.syn : Int)]
theorem layRf : Lay rfV 4 := ⟨fun _ => rfl, by decide, fun x u hu => by simp [rfV] at hu; rcases hu with rfl | rfl | rfl | rfl <;> rfl⟩
theorem kindRf : Kind Try.prog 137 134 4 56 := kind_of Try.underlying137 (z := .agg #[.string ⟨#[]⟩, .bool false, .slice none 0 0, .int .i64 0]) (by kernel_rfl) rfl
/-- The blocks of a reference's disk. -/
def RB (r : Nat) (a : Option Addr) (xs : List Rf) (g : Nat) : Prop := g = r ∨ (∃ q, a = some q ∧ q.block = g) ∨ ∃ x ∈ xs, ∃ q, x.a = some q ∧ q.block = g
structure RefAt (W : World) (r : Nat) (T : Dk) (K : Int) (a : Option Addr) (c : Nat) (xs : List Rf) : Prop where
  box : W.heap[r]? = some (.cells #[.int .i64 (T.limit : Int), .slice a xs.length c, .bool T.down, .int .i64 (T.steps : Int), .int .i64 K] 139)
  row : Rw rfV 4 W a xs.length c xs
  bys : ∀ x ∈ xs, Rw byU 1 W x.a x.bs.length x.cap x.bs
  syn : ∀ x ∈ xs, x.syn ≤ x.bs.length
  ra : ∀ q, a = some q → q.block ≠ r
  rx : ∀ x ∈ xs, ∀ q, x.a = some q → q.block ≠ r
  lt : ∀ g, RB r a xs g → g < W.heap.size
  kp : T.steps ≠ 0 → K = (T.keep : Int)
  fs : T.fs = xs.map Rf.fl
theorem RefAt.chg {W W' : World} {r c : Nat} {T : Dk} {K : Int} {a : Option Addr} {xs : List Rf} {D : Nat → Prop} (h : RefAt W r T K a c xs) (hC : Chg D W W') (hD : ∀ g, RB r a xs g → ¬ D g) : RefAt W' r T K a c xs :=
  ⟨hC.block h.box (hD _ (.inl rfl)), h.row.chg hC (fun q e => hD _ (.inr (.inl ⟨q, e, rfl⟩))), fun x hx => (h.bys x hx).chg hC (fun q e => hD _ (.inr (.inr ⟨x, hx, q, e, rfl⟩))), h.syn, h.ra, h.rx, fun g hg => Nat.lt_of_lt_of_le (h.lt g hg) hC.size, h.kp, h.fs⟩
theorem RefAt.below {W W' : World} {r c : Nat} {T : Dk} {K : Int} {a : Option Addr} {xs : List Rf} (h : RefAt W r T K a c xs) (hB : Below W.heap.size W W') : RefAt W' r T K a c xs :=
  h.chg (D := fun _ => False) (Chg.of_below hB) (fun _ _ f => f)
/-- What a call leaves of it. -/
def RNx (w w' : World) (r : Nat) (a : Option Addr) (xs : List Rf) (T' : Dk) : Prop := ∃ K' a' c' xs', RefAt w' r T' K' a' c' xs' ∧ Chg (fun g => g = r) w w' ∧ ∀ g, RB r a' xs' g → RB r a xs g ∨ w.heap.size ≤ g
theorem RefAt.nxt {w w' : World} {r c : Nat} {T : Dk} {K : Int} {a : Option Addr} {xs : List Rf} (h : RefAt w r T K a c xs) (hB : Below w.heap.size w w') : RNx w w' r a xs T := ⟨K, a, c, xs, h.below hB, Chg.of_below hB, fun _ hg => .inl hg⟩
/-- Its box is written. -/
theorem RefAt.setBox {W W' : World} {r c : Nat} {T T' : Dk} {K K' : Int} {a : Option Addr} {xs : List Rf} (h : RefAt W r T K a c xs) (hC : Chg (fun g => g = r) W W') (hb : W'.heap[r]? = some (.cells #[.int .i64 (T'.limit : Int), .slice a xs.length c, .bool T'.down, .int .i64 (T'.steps : Int), .int .i64 K'] 139)) (hk : T'.steps ≠ 0 → K' = (T'.keep : Int)) (hf : T'.fs = T.fs) : RefAt W' r T' K' a c xs :=
  ⟨hb, h.row.chg hC (fun q e => h.ra q e), fun x hx => (h.bys x hx).chg hC (fun q e => h.rx x hx q e), h.syn, h.ra, h.rx, fun g hg => Nat.lt_of_lt_of_le (h.lt g hg) hC.size, hk, hf.trans h.fs⟩
theorem RNx.trans {w w1 w2 : World} {r : Nat} {a : Option Addr} {xs : List Rf} {T2 : Dk} {a1 : Option Addr} {xs1 : List Rf} (hC : Chg (fun g => g = r) w w1) (hB : ∀ g, RB r a1 xs1 g → RB r a xs g ∨ w.heap.size ≤ g) (k : RNx w1 w2 r a1 xs1 T2) : RNx w w2 r a xs T2 := by
  obtain ⟨K', a', c', xs', h1, h2, h3⟩ := k
  have := hC.size
  exact ⟨K', a', c', xs', h1, hC.trans h2, fun g hg => by
    rcases h3 g hg with h | h
    · exact hB g h
    · exact .inr (by omega)⟩
theorem bytesLess_cmp : ∀ a b : List UInt8, Op.bytesLess a b = decide (Lib.compareBytes a b < 0)
  | [], [] => rfl
  | [], _ :: _ => rfl
  | _ :: _, [] => rfl
  | a :: x, b :: y => by
    have ih := bytesLess_cmp x y
    unfold Op.bytesLess Lib.compareBytes
    by_cases h1 : a < b
    · simp [h1]
    · by_cases h2 : b < a
      · have : a ≠ b := fun e => by subst e; exact absurd h2 (UInt8.lt_irrefl _)
        simp [h1, h2, this]
      · have : a = b := by
          have e1 : ¬ a.toNat < b.toNat := h1
          have e2 : ¬ b.toNat < a.toNat := h2
          exact UInt8.toNat_inj.1 (by omega)
        subst this
        simp [h1, ih]
set_option maxHeartbeats 1000000 in
theorem rCopied {w : World} {a : Option Addr} {n cap : Nat} {l : List UInt8} (h : Rw byU 1 w a n cap l) (hl : n ≤ 140737488351232) :
    Calls Try.prog 93 #[.slice a n cap] w fun e w' => ∃ a' cap', e = .returned (.slice a' n cap') ∧ OwnF byU 1 5 w' w.heap.size (.slice a' n cap') l ∧ Below w.heap.size w w' := by
  obtain ⟨a7, cap7, w7, hr7, ho7, hb7, _⟩ := appendU kindU layU (ownF_nil w w.heap.size) (Nat.le_refl _) h (by simp; omega) (by simp; omega) 22
  simp only [List.length_nil, Nat.zero_add, List.nil_append] at hr7 ho7
  have HX : Hid (OwnF byU 1 5 w7 w.heap.size (.slice a7 n cap7) l ∧ Below w.heap.size w w7) := ⟨ho7, hb7⟩
  clear h hl ho7 hb7
  go_enter Try.func93, Try.ntmps93
  go_wp2_with (at_builtin; refine wpList_append_hr rfl _ _ 22 rfl _ _ rfl rfl hr7 ?_)
  go_ret
  exact ⟨a7, cap7, rfl, HX.out⟩
set_option maxHeartbeats 1000000 in
theorem rNew (n : Nat) (hn : n ≤ 1099511627776) (w : World) : Calls Try.prog 63 #[.int .i64 (n : Int)] w fun e w' => e = .returned (.tuple #[.pointer (some ⟨w.heap.size, 0, none⟩), .int .i64 0]) ∧ RefAt w' w.heap.size ⟨n, [], false, 0, 0⟩ 0 none 0 [] ∧ Below w.heap.size w w' := by
  have h1 : ¬ (1099511627776 : Int) < (n : Int) := by omega
  have h0 : ¬ (n : Int) < 0 := by omega
  go_enter Try.func63, Try.ntmps63
  go_wp2_with fail
  go_ret2
  have hq : (w.alloc (.cells #[.int .i64 (n : Int), .slice none 0 0, .bool false, .int .i64 0, .int .i64 0] 139)).heap[w.heap.size]? = _ := (MapKept.heap_alloc w _).1
  refine ⟨rfl, ⟨hq, rw_nil _, by simp, by simp, by simp, by simp, fun g hg => ?_, by simp, rfl⟩, (Below.refl _ _).alloc (Nat.le_refl _) _⟩
  rcases hg with h | ⟨q, h, _⟩ | ⟨x, h, _⟩
  · rw [World.size_alloc]; omega
  · cases h
  · cases h
set_option maxHeartbeats 1000000 in
theorem rNew_bad (L : Int) (hL : L < 0 ∨ 1099511627776 < L) (w : World) : Calls Try.prog 63 #[.int .i64 L] w fun e w' => e = .returned (.tuple #[.pointer none, .int .i64 12]) ∧ w' = w := by
  by_cases h1 : L < 0
  · clear hL
    go_enter Try.func63, Try.ntmps63
    go_wp2_with fail
    go_ret2
    exact ⟨rfl, rfl⟩
  · have h2 : (1099511627776 : Int) < L := by omega
    clear hL
    go_enter Try.func63, Try.ntmps63
    go_wp2_with fail
    go_ret2
    exact ⟨rfl, rfl⟩
end Go.Proofs.Ytaclgiakinoocaa

/-! The reference's calls that write its box alone; named. -/
namespace Go.Proofs.Ytaclgiakinoocaa
open Go.RowKit Go.Lib
set_option maxRecDepth 100000

theorem setR {W : World} {p : Nat} {v0 v1 v2 v3 v4 : Value} (h : W.heap[p]? = some (.cells #[v0, v1, v2, v3, v4] 139)) (u2 u3 : Value) :
    ((W.setCell ⟨p, 2, none⟩ u2).setCell ⟨p, 3, none⟩ u3).heap[p]? = some (.cells #[v0, v1, u2, u3, v4] 139) ∧ Chg (fun g => g = p) W ((W.setCell ⟨p, 2, none⟩ u2).setCell ⟨p, 3, none⟩ u3) := by
  refine ⟨?_, (Chg.set (D := fun g => g = p) 2 W u2 rfl).trans (Chg.set 3 _ u3 rfl)⟩
  have h1 := heap_setCell_cells h 2 u2
  have h2 := heap_setCell_cells h1 3 u3
  rw [h2]
  rfl
theorem setR3 {W : World} {p : Nat} {v0 v1 v2 v3 v4 : Value} (h : W.heap[p]? = some (.cells #[v0, v1, v2, v3, v4] 139)) (u3 : Value) :
    (W.setCell ⟨p, 3, none⟩ u3).heap[p]? = some (.cells #[v0, v1, v2, u3, v4] 139) ∧ Chg (fun g => g = p) W (W.setCell ⟨p, 3, none⟩ u3) := by
  refine ⟨?_, Chg.set 3 W u3 rfl⟩
  rw [heap_setCell_cells h 3 u3]
  rfl
theorem setR34 {W : World} {p : Nat} {v0 v1 v2 v3 v4 : Value} (h : W.heap[p]? = some (.cells #[v0, v1, v2, v3, v4] 139)) (u3 u4 : Value) :
    ((W.setCell ⟨p, 3, none⟩ u3).setCell ⟨p, 4, none⟩ u4).heap[p]? = some (.cells #[v0, v1, v2, u3, u4] 139) ∧ Chg (fun g => g = p) W ((W.setCell ⟨p, 3, none⟩ u3).setCell ⟨p, 4, none⟩ u4) := by
  refine ⟨?_, (Chg.set (D := fun g => g = p) 3 W u3 rfl).trans (Chg.set 4 _ u4 rfl)⟩
  have h1 := heap_setCell_cells h 3 u3
  have h2 := heap_setCell_cells h1 4 u4
  rw [h2]
  rfl
variable {w : World} {r c : Nat} {T : Dk} {K : Int} {a : Option Addr} {xs : List Rf}
theorem RefAt.nx {w w' : World} {r c : Nat} {T T' : Dk} {K K' : Int} {a : Option Addr} {xs : List Rf} (h : RefAt w r T K a c xs) (hC : Chg (fun g => g = r) w w') (hb : w'.heap[r]? = some (.cells #[.int .i64 (T'.limit : Int), .slice a xs.length c, .bool T'.down, .int .i64 (T'.steps : Int), .int .i64 K'] 139)) (hk : T'.steps ≠ 0 → K' = (T'.keep : Int)) (hf : T'.fs = T.fs) : RNx w w' r a xs T' := ⟨K', a, c, xs, h.setBox hC hb hk hf, hC, fun _ hg => .inl hg⟩
set_option maxHeartbeats 1000000 in
theorem rUp (h : RefAt w r T K a c xs) :
    Calls Try.prog 75 #[.pointer (some ⟨r, 0, none⟩)] w fun e w' => e = .returned (.int .i64 0) ∧ RNx w w' r a xs { T with down := false, steps := 0, keep := 0 } := by
  have f2 := Lib.frozen_of_heap h.box 2
  have f3 := Lib.frozen_of_heap h.box 3
  obtain ⟨c0, c1, c2, c3, c4⟩ := box5 h.box
  have HH : Hid (RefAt w r T K a c xs) := h
  clear h
  go_enter Try.func75, Try.ntmps75
  go_wp2_with fail
  go_ret
  have hb := setR HH.out.box (.bool false) (.int .i64 0)
  exact ⟨rfl, HH.out.nx hb.2 hb.1 (by simp) rfl⟩
set_option maxHeartbeats 1000000 in
theorem rDown (h : RefAt w r T K a c xs) :
    Calls Try.prog 72 #[.pointer (some ⟨r, 0, none⟩)] w fun e w' => e = .returned (.bool T.down) ∧ w' = w := by
  obtain ⟨c0, c1, c2, c3, c4⟩ := box5 h.box
  clear h
  go_enter Try.func72, Try.ntmps72
  go_wp2_with fail
  go_ret
  exact ⟨rfl, rfl⟩
set_option maxHeartbeats 1000000 in
theorem rArm_down (h : RefAt w r T K a c xs) (hd : T.down = true) (s k : Int) :
    Calls Try.prog 73 #[.pointer (some ⟨r, 0, none⟩), .int .i64 s, .int .i64 k] w fun e w' => e = .returned (.int .i64 110) ∧ w' = w := by
  obtain ⟨c0, c1, c2, c3, c4⟩ := box5 h.box
  rw [hd] at c2
  clear h hd c0 c1 c3 c4
  go_enter Try.func73, Try.ntmps73
  go_wp2_with fail
  go_ret
  exact ⟨rfl, rfl⟩
set_option maxHeartbeats 1000000 in
theorem rArm_off (h : RefAt w r T K a c xs) (hd : T.down = false) (k : Int) :
    Calls Try.prog 73 #[.pointer (some ⟨r, 0, none⟩), .int .i64 0, .int .i64 k] w fun e w' => e = .returned (.int .i64 0) ∧ RNx w w' r a xs { T with steps := 0, keep := 0 } := by
  have f3 := Lib.frozen_of_heap h.box 3
  obtain ⟨c0, c1, c2, c3, c4⟩ := box5 h.box
  rw [hd] at c2
  have HH : Hid (RefAt w r T K a c xs) := h
  clear h hd c0 c1 c4
  go_enter Try.func73, Try.ntmps73
  go_wp2_with fail
  go_ret
  have hb := setR3 HH.out.box (.int .i64 0)
  exact ⟨rfl, HH.out.nx hb.2 hb.1 (by simp) rfl⟩
set_option maxHeartbeats 1000000 in
theorem rArm_bad (h : RefAt w r T K a c xs) (hd : T.down = false) (s k : Int) (h0 : s ≠ 0) (hb : s < 0 ∨ k < 0) :
    Calls Try.prog 73 #[.pointer (some ⟨r, 0, none⟩), .int .i64 s, .int .i64 k] w fun e w' => e = .returned (.int .i64 12) ∧ w' = w := by
  obtain ⟨c0, c1, c2, c3, c4⟩ := box5 h.box
  rw [hd] at c2
  have g1 : (s == 0) = false := beq_eq_false_iff_ne.2 h0
  clear h hd c0 c1 c3 c4
  by_cases h1 : s < 0
  · clear hb
    go_enter Try.func73, Try.ntmps73
    go_wp2_with fail
    go_ret
    exact ⟨rfl, rfl⟩
  · have h2 : k < 0 := by omega
    clear hb
    go_enter Try.func73, Try.ntmps73
    go_wp2_with fail
    go_ret
    exact ⟨rfl, rfl⟩
set_option maxHeartbeats 1000000 in
theorem rArm_set (h : RefAt w r T K a c xs) (hd : T.down = false) (s k : Nat) (h0 : 0 < s) :
    Calls Try.prog 73 #[.pointer (some ⟨r, 0, none⟩), .int .i64 (s : Int), .int .i64 (k : Int)] w fun e w' => e = .returned (.int .i64 0) ∧ RNx w w' r a xs { T with steps := s, keep := k } := by
  have f3 := Lib.frozen_of_heap h.box 3
  have f4 := Lib.frozen_of_heap h.box 4
  obtain ⟨c0, c1, c2, c3, c4⟩ := box5 h.box
  rw [hd] at c2
  have HH : Hid (RefAt w r T K a c xs) := h
  have g1 : ((s : Int) == 0) = false := beq_eq_false_iff_ne.2 (by omega)
  have g2 : ¬ ((s : Int) < 0) := by omega
  have g3 : ¬ ((k : Int) < 0) := by omega
  clear h hd c0 c1 h0
  go_enter Try.func73, Try.ntmps73
  go_wp2_with fail
  go_ret
  have hb := setR34 HH.out.box (.int .i64 (s : Int)) (.int .i64 (k : Int))
  exact ⟨rfl, HH.out.nx hb.2 hb.1 (fun _ => rfl) rfl⟩
set_option maxHeartbeats 1000000 in
/-- fires: one changing call more. -/
theorem rFires (h : RefAt w r T K a c xs) (hs : T.steps ≤ 9223372036854775807) :
    Calls Try.prog 95 #[.pointer (some ⟨r, 0, none⟩)] w fun e w' => e = .returned (.bool (decide (T.steps = 1))) ∧ RefAt w' r { T with steps := T.steps - 1 } K a c xs ∧ Chg (fun g => g = r) w w' := by
  have f3 := Lib.frozen_of_heap h.box 3
  obtain ⟨c0, c1, c2, c3, c4⟩ := box5 h.box
  have HH : Hid (RefAt w r T K a c xs) := h
  by_cases h0 : T.steps = 0
  · have g1 : ((T.steps : Int) == 0) = true := by rw [h0]; rfl
    have g2 : decide (T.steps = 1) = false := by rw [h0]; rfl
    have HT : Hid ({ T with steps := T.steps - 1 } = T) := by
      show { T with steps := T.steps - 1 } = T
      obtain ⟨t1, t2, t3, t4, t5⟩ := T
      simp only at h0
      subst h0
      rfl
    rw [g2]
    clear h h0 g2
    go_enter Try.func95, Try.ntmps95
    go_wp2_with fail
    go_ret
    exact ⟨rfl, by rw [HT.out]; exact HH.out, Chg.refl _ _⟩
  · have g1 : ((T.steps : Int) == 0) = false := beq_eq_false_iff_ne.2 (by omega)
    have g3 : IntKind.i64.wrap ((T.steps : Int) - 1) = ((T.steps - 1 : Nat) : Int) := by rw [IntWalk.i64_in _ (by omega)]; omega
    have g4 : (((T.steps - 1 : Nat) : Int) == 0) = decide (T.steps = 1) := by
      by_cases h1 : T.steps = 1
      · rw [h1]; rfl
      · rw [decide_eq_false h1]; exact beq_eq_false_iff_ne.2 (by omega)
    have HK : Hid (T.steps ≠ 0) := h0
    clear h h0 hs
    obtain ⟨m, hm⟩ : ∃ m, T.steps - 1 = m := ⟨_, rfl⟩
    obtain ⟨bl, hbl⟩ : ∃ bl, decide (T.steps = 1) = bl := ⟨_, rfl⟩
    rw [hm] at g3 g4
    rw [hbl] at g4
    rw [hm, hbl]
    have HM : Hid (T.steps - 1 = m) := hm
    clear hm hbl
    go_enter Try.func95, Try.ntmps95
    go_wp2_with fail
    go_ret
    have hb := setR3 HH.out.box (.int .i64 (m : Int))
    exact ⟨rfl, HH.out.setBox hb.2 hb.1 (fun _ => HH.out.kp HK.out) rfl, hb.2⟩
set_option maxHeartbeats 4000000 in
theorem rNamed (l : List UInt8) (hl : l.length ≤ 9223372036854775807) (w : World) : Calls Try.prog 90 #[.string ⟨l.toArray⟩] w fun e w' => e = .returned (.bool (nameOk l)) ∧ w' = w := by
  have hsz : (⟨l.toArray⟩ : ByteArray).size = l.length := by simp [ByteArray.size]
  have hx0 : ∀ (w : World) (j : Nat) (c : UInt8), l[j]? = some c → (Instr.index 9 (.string ⟨l.toArray⟩) (.int .i64 (j : Int))).run Try.prog w = .ok (.int .u8 (c.toNat : Int)) w := fun w j c hc => by
    obtain ⟨hj, rfl⟩ := List.getElem?_eq_some_iff.1 hc
    rw [run_index_string w 9 _ .i64 _ Try.underlying9, dif_pos (by constructor <;> omega)]
    rfl
  obtain ⟨r, hr⟩ : ∃ r, nameOk l = r := ⟨_, rfl⟩
  rw [hr]
  have H : Hid (nameOk l = r) := hr
  have HX : Hid (∀ (w : World) (j : Nat) (c : UInt8), l[j]? = some c → (Instr.index 9 (.string ⟨l.toArray⟩) (.int .i64 (j : Int))).run Try.prog w = .ok (.int .u8 (c.toNat : Int)) w) := hx0
  clear hr hx0
  generalize (⟨l.toArray⟩ : ByteArray) = s at *
  have HZ : Hid (s.size = l.length) := hsz
  clear hsz
  have hsz := HZ.out
  by_cases h0 : l.length = 0
  · have b0 : (s.size : Int) < 1 := by rw [hsz, h0]; decide
    have hr : r = false := by rw [← H.out]; unfold nameOk; simp [h0]
    subst hr
    clear hsz h0
    go_enter Try.func90, Try.ntmps90
    go_wp2_with fail
    go_ret
    exact ⟨rfl, rfl⟩
  · have b0 : ¬ (s.size : Int) < 1 := by rw [hsz]; omega
    by_cases h1 : l.length ≤ 32
    · have b1 : ¬ ((32 : Int) < (s.size : Int)) := by rw [hsz]; omega
      have hs2 : s.size ≤ 32 := by omega
      clear hsz
      have HL : Hid (¬ l.length = 0 ∧ l.length ≤ 32) := ⟨h0, h1⟩
      clear h0 h1
      go_enter Try.func90, Try.ntmps90
      go_wp2_with fail
      go_loopw [3] (fun v wr => ∃ j : Nat, j ≤ s.size ∧ v = .int .i64 (j : Int) ∧ wr = w ∧ Hid (∀ c ∈ l.take j, inN c.toNat = true)) (fun v _ => s.size - (RowKit.intOf v).toNat)
      case atStart => exact ⟨0, Nat.zero_le _, rfl, rfl, fun c hc => by simp at hc⟩
      case round =>
        obtain ⟨j, hj, rfl, rfl, hc⟩ := hrel
        by_cases hlt2 : j < s.size
        · have hlt : j < l.length := by rw [← HZ.out]; exact hlt2
          have hk : (j : Int) < (s.size : Int) := by omega
          obtain ⟨c, hcc⟩ : ∃ c, l[j] = c := ⟨_, rfl⟩
          have HCC : Hid (l[j]? = some c) := by rw [← hcc]; exact List.getElem?_eq_getElem hlt
          have hx := HX.out wr j c HCC.out
          clear hcc hlt
          obtain ⟨n, hn⟩ : ∃ n, c.toNat = n := ⟨_, rfl⟩
          have HN : Hid (c.toNat = n) := hn
          rw [hn] at hx
          clear hn
          have gi : IntKind.i64.wrap ((j : Int) + 1) = ((j + 1 : Nat) : Int) := by rw [IntWalk.i64_in _ (by omega)]; omega
          by_cases h1 : (97 : Int) ≤ (n : Int) <;> by_cases h2 : (n : Int) ≤ 122 <;> by_cases h3 : (48 : Int) ≤ (n : Int) <;> by_cases h4 : (n : Int) ≤ 57 <;> by_cases h5 : (n : Int) = 46 <;> by_cases h6 : (n : Int) = 95 <;> by_cases h7 : (n : Int) = 45 <;> first
            | (exfalso; omega)
            | ((first | have a5 : ((n : Int) != 46) = false := by rw [h5]; rfl | have a5 : ((n : Int) != 46) = true := bne_iff_ne.2 h5)
               (first | have a6 : ((n : Int) != 95) = false := by rw [h6]; rfl | have a6 : ((n : Int) != 95) = true := bne_iff_ne.2 h6)
               (first | have a7 : ((n : Int) != 45) = false := by rw [h7]; rfl | have a7 : ((n : Int) != 45) = true := bne_iff_ne.2 h7)
               first
               | (have hin : inN n = true := by (unfold inN; simp only [Bool.or_eq_true, Bool.and_eq_true, decide_eq_true_eq]; omega)
                  have HIN : Hid (inN c.toNat = true) := by rw [HN.out]; exact hin
                  clear hin
                  go_wp2_with fail
                  go_roundw
                  case rel =>
                    refine ⟨j + 1, by omega, by go_num, trivial, fun d hc2 => ?_⟩
                    rw [List.take_add_one, HCC.out] at hc2
                    rcases List.mem_append.1 hc2 with h | h
                    · exact hc.out d h
                    · simp at h; subst h; exact HIN.out
                  case measure => simp [RowKit.intOf]; omega)
               | (have hin : inN n = false := by (unfold inN; simp only [Bool.or_eq_false_iff, Bool.and_eq_false_iff, decide_eq_false_iff_not]; omega)
                  have hr : r = false := by
                    rw [← H.out]; unfold nameOk
                    have : l.all (fun c => inN c.toNat) = false := by
                      rw [List.all_eq_false]
                      exact ⟨c, List.mem_of_getElem? HCC.out, by rw [HN.out, hin]; simp⟩
                    simp [this]
                  subst hr
                  clear hin
                  go_wp2_with fail
                  go_ret
                  exact ⟨rfl, rfl⟩))
        · obtain rfl : j = s.size := by omega
          have hk : ¬ ((s.size : Int) < (s.size : Int)) := by omega
          have hr : r = true := by
            rw [← H.out]; unfold nameOk
            have : l.all (fun c => inN c.toNat) = true := by
              rw [List.all_eq_true]
              intro c hc2
              exact hc.out c (by rw [HZ.out, List.take_length]; exact hc2)
            have := HL.out; simp [*]
          subst hr
          go_wp2_with fail
          go_ret
          exact ⟨rfl, rfl⟩
    · have b1 : (32 : Int) < (s.size : Int) := by rw [hsz]; omega
      have hr : r = false := by rw [← H.out]; unfold nameOk; simp [h1]
      subst hr
      clear hsz h1
      go_enter Try.func90, Try.ntmps90
      go_wp2_with fail
      go_ret
      exact ⟨rfl, rfl⟩
end Go.Proofs.Ytaclgiakinoocaa

/-! The reference's file. -/
namespace Go.Proofs.Ytaclgiakinoocaa
open Go.RowKit Go.Lib
set_option maxRecDepth 100000

theorem name_ne {a b : List UInt8} (h : a ≠ b) : ((⟨a.toArray⟩ : ByteArray).toList == (⟨b.toArray⟩ : ByteArray).toList) = false := by
  rw [ByteArray.toList_eq, ByteArray.toList_eq]
  simpa using h
theorem name_eq (a : List UInt8) : ((⟨a.toArray⟩ : ByteArray).toList == (⟨a.toArray⟩ : ByteArray).toList) = true := by simp
theorem set4 {W : World} {q : Nat} {T : TypeId} {u0 u1 u2 u3 : Value} (h : W.heap[q]? = some (.cells #[u0, u1, u2, u3] T)) (v0 v1 v2 v3 : Value) :
    ∃ W9, (((W.setCell ⟨q, 0, none⟩ v0).setCell ⟨q, 1, none⟩ v1).setCell ⟨q, 2, none⟩ v2).setCell ⟨q, 3, none⟩ v3 = W9 ∧ W9.heap[q]? = some (.cells #[v0, v1, v2, v3] T) ∧ Chg (fun g => g = q) W W9 := by
  have e0 := heap_setCell_cells h 0 v0
  have e1 := heap_setCell_cells e0 1 v1
  have e2 := heap_setCell_cells e1 2 v2
  have e3 := heap_setCell_cells e2 3 v3
  have hs : ∀ (i : Nat) (W : World) (u : Value), Chg (fun g => g = q) W (W.setCell ⟨q, i, none⟩ u) := fun i W u => Chg.set (D := fun g => g = q) (q := q) i W u rfl
  exact ⟨_, rfl, e3, (((hs 0 _ _).trans (hs 1 _ _)).trans (hs 2 _ _)).trans (hs 3 _ _)⟩
theorem box4 {W : World} {b : Nat} {T : TypeId} {v0 v1 v2 v3 : Value} (h : W.heap[b]? = some (.cells #[v0, v1, v2, v3] T)) : W.cell? ⟨b, 0, none⟩ = some v0 ∧ W.cell? ⟨b, 1, none⟩ = some v1 ∧ W.cell? ⟨b, 2, none⟩ = some v2 ∧ W.cell? ⟨b, 3, none⟩ = some v3 := by
  simp only [Lib.cell_of_heap h]
  exact ⟨rfl, rfl, rfl, rfl⟩
def rfA (x : Rf) : Value := .agg #[.string ⟨x.nm.toArray⟩, .bool true, .slice x.a x.bs.length x.cap, .int .i64 (x.syn : Int)]
def noA (nm : List UInt8) : Value := .agg #[.string ⟨nm.toArray⟩, .bool false, .slice none 0 0, .int .i64 0]
/-- What file answers. -/
def fileA (xs : List Rf) (nm : List UInt8) : Value := match xs.find? (fun x => decide (x.nm = nm)) with | some x => rfA x | none => noA nm
theorem fileA_hit {xs : List Rf} {nm : List UInt8} {i : Nat} {o : Rf} (ho : xs[i]? = some o) (he : o.nm = nm) (hy : ∀ y ∈ xs.take i, y.nm ≠ nm) : fileA xs nm = rfA o := by
  have hi := (List.getElem?_eq_some_iff.1 ho).1
  have e : xs = xs.take i ++ o :: xs.drop (i + 1) := by
    rw [List.getElem?_eq_some_iff] at ho
    obtain ⟨_, rfl⟩ := ho
    rw [← List.drop_eq_getElem_cons hi, List.take_append_drop]
  unfold fileA
  have h1 : (xs.take i).find? (fun x => decide (x.nm = nm)) = none := by
    rw [List.find?_eq_none]
    intro y hy2
    simpa using hy y hy2
  rw [e, List.find?_append, h1, List.find?_cons_of_pos (by simp [he])]
  rfl
theorem fileA_miss {xs : List Rf} {nm : List UInt8} (hy : ∀ y ∈ xs, y.nm ≠ nm) : fileA xs nm = noA nm := by
  unfold fileA
  have h1 : xs.find? (fun x => decide (x.nm = nm)) = none := by
    rw [List.find?_eq_none]
    intro y hy2
    simpa using hy y hy2
  rw [h1]
variable {w : World} {r c : Nat} {T : Dk} {K : Int} {a : Option Addr} {xs : List Rf}
set_option maxHeartbeats 2000000 in
theorem rFile (h : RefAt w r T K a c xs) (hn : xs.length ≤ 4398046511104) (nm : List UInt8) :
    Calls Try.prog 91 #[.pointer (some ⟨r, 0, none⟩), .string ⟨nm.toArray⟩] w fun e w' => e = .returned (fileA xs nm) ∧ Below w.heap.size w w' := by
  obtain ⟨W0, hW0⟩ : ∃ W0, w.alloc (.cells #[.string ⟨#[]⟩, .bool false, .slice none 0 0, .int .i64 0] 134) = W0 := ⟨_, rfl⟩
  have hb0 : Below w.heap.size w W0 := by rw [← hW0]; exact (Below.refl _ _).alloc (Nat.le_refl _) _
  have hq : W0.heap[w.heap.size]? = some (.cells #[.string ⟨#[]⟩, .bool false, .slice none 0 0, .int .i64 0] 134) := by rw [← hW0]; exact (MapKept.heap_alloc w _).1
  have h := h.below hb0
  obtain ⟨c0, c1, c2, c3, c4⟩ := box5 h.box
  have HH : Hid (RefAt W0 r T K a c xs ∧ Below w.heap.size w W0 ∧ W0.heap[w.heap.size]? = some (.cells #[.string ⟨#[]⟩, .bool false, .slice none 0 0, .int .i64 0] 134)) := ⟨h, hb0, hq⟩
  have hnc : (xs.length : Int) ≤ 4398046511104 := by omega
  obtain ⟨fa, hfa⟩ : ∃ fa, fileA xs nm = fa := ⟨_, rfl⟩
  have HFA : Hid (fileA xs nm = fa) := hfa
  rw [hfa]
  clear h c0 c2 c3 c4 hn hb0 hq hfa
  obtain ⟨n, hn⟩ : ∃ n, xs.length = n := ⟨_, rfl⟩
  have HN : Hid (xs.length = n) := hn
  rw [hn] at c1 hnc
  clear hn
  go_enter Try.func91, Try.ntmps91
  go_wp2_with fail
  go_loopw [5] (fun v wr => ∃ i : Nat, i ≤ n ∧ v = .int .i64 (i : Int) ∧ wr = W0 ∧ Hid (∀ y ∈ xs.take i, y.nm ≠ nm)) (fun v _ => n - (RowKit.intOf v).toNat)
  case atStart => exact ⟨0, Nat.zero_le _, rfl, rfl, fun y hy => by simp at hy⟩
  case round =>
    obtain ⟨i, hi, rfl, hwr, hy⟩ := hrel
    subst hwr
    by_cases hlt : i < n
    · have hlt2 : (i : Int) < (n : Int) := by omega
      have hrow := HH.out.1.row
      rw [HN.out] at hrow
      obtain ⟨g, off, o, hoa, hgl, hoi, hcell⟩ := hrow.at i hlt
      subst hoa
      have o0 := hcell 0 _ rfl
      have o1 := hcell 1 _ rfl
      have o2 := hcell 2 _ rfl
      have o3 := hcell 3 _ rfl
      rw [Nat.add_zero] at o0
      have gi : IntKind.i64.wrap ((i : Int) + 1) = ((i + 1 : Nat) : Int) := by rw [IntWalk.i64_in _ (by omega)]; omega
      have HOI : Hid (xs[i]? = some o) := hoi
      by_cases he : o.nm = nm
      · have q1 := name_eq nm
        have hfv : fa = rfA o := by rw [← HFA.out]; exact fileA_hit hoi he hy.out
        unfold rfA at hfv
        rw [he] at o0 hfv
        clear hcell hgl hoi hrow he
        generalize (⟨nm.toArray⟩ : ByteArray) = s at *
        have hAW := HH.out.2.2
        obtain ⟨W9, hW9, hh9, hC9⟩ := set4 hAW (.string s) (.bool true) (.slice o.a o.bs.length o.cap) (.int .i64 (o.syn : Int))
        obtain ⟨y0, y1, y2, y3⟩ := box4 hAW
        have k0 := Lib.frozen_of_heap hAW 0
        have k1 := Lib.frozen_of_heap hAW 1
        have k2 := Lib.frozen_of_heap hAW 2
        have k3 := Lib.frozen_of_heap hAW 3
        obtain ⟨r0, r1, r2, r3⟩ := box4 hh9
        have HB : Hid (Below w.heap.size w W9) := HH.out.2.1.trans (hC9.below (fun g e => by omega) HH.out.2.1.size)
        have HFV : Hid (fa = .agg #[.string s, .bool true, .slice o.a o.bs.length o.cap, .int .i64 (o.syn : Int)]) := hfv
        clear hAW hh9 hC9 hfv
        go_wp2_with fail
        refine bodyPost_ret (v := .agg #[.string s, .bool true, .slice o.a o.bs.length o.cap, .int .i64 (o.syn : Int)]) (by simp [results, Try.results91, go_sem, r0, r1, r2, r3]) rfl ?_
        exact ⟨by rw [HFV.out], HB.out⟩
      · have q1 := name_ne he
        have HE : Hid (o.nm ≠ nm) := he
        clear hcell hgl hoi hrow he
        generalize (⟨nm.toArray⟩ : ByteArray) = s at *
        generalize (⟨o.nm.toArray⟩ : ByteArray) = s2 at *
        go_wp2_with fail
        go_roundw
        case rel =>
          refine ⟨i + 1, by omega, by first | rfl | go_num, trivial, fun y hy2 => ?_⟩
          rw [List.take_add_one, HOI.out] at hy2
          rcases List.mem_append.1 hy2 with h | h
          · exact hy.out y h
          · simp at h; subst h; exact HE.out
        case measure => simp [RowKit.intOf]; omega
    · obtain rfl : i = n := by omega
      have hlt2 : ¬ ((i : Int) < (i : Int)) := by omega
      have hfv : fa = noA nm := by rw [← HFA.out]; exact fileA_miss (fun y hy2 => hy.out y (by rw [← HN.out, List.take_length]; exact hy2))
      unfold noA at hfv
      generalize (⟨nm.toArray⟩ : ByteArray) = s at *
      have hAW := HH.out.2.2
      obtain ⟨W9, hW9, hh9, hC9⟩ := set4 hAW (.string s) (.bool false) (.slice none 0 0) (.int .i64 0)
      obtain ⟨y0, y1, y2, y3⟩ := box4 hAW
      have k0 := Lib.frozen_of_heap hAW 0
      have k1 := Lib.frozen_of_heap hAW 1
      have k2 := Lib.frozen_of_heap hAW 2
      have k3 := Lib.frozen_of_heap hAW 3
      obtain ⟨r0, r1, r2, r3⟩ := box4 hh9
      have HB : Hid (Below w.heap.size w W9) := HH.out.2.1.trans (hC9.below (fun g e => by omega) HH.out.2.1.size)
      have HFV : Hid (fa = .agg #[.string s, .bool false, .slice none 0 0, .int .i64 0]) := hfv
      clear hAW hh9 hC9 hfv
      go_wp2_with fail
      refine bodyPost_ret (v := .agg #[.string s, .bool false, .slice none 0 0, .int .i64 0]) (by simp [results, Try.results91, go_sem, r0, r1, r2, r3]) rfl ?_
      exact ⟨by rw [HFV.out], HB.out⟩
end Go.Proofs.Ytaclgiakinoocaa
