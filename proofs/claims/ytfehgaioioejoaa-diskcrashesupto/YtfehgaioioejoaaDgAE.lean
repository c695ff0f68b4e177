import Derived.Test.YtfehgaioioejoaaDaK
import Derived.Lib.Bytealg
/-! The reference's disk in memory. -/
namespace Go.Proofs.Ytfehgaioioejoaa
open Go.RowKit Go.Lib
set_option maxRecDepth 100000

/-- A file of the reference: its name, where its bytes lie, its bytes, how many are durable. -/
structure Rf where
  nm : List UInt8
  a : Option Addr
  cap : Nat
  bs : List UInt8
  syn : Nat
def Rf.fl (x : Rf) : Fl := ⟨x.nm, x.bs, x.syn⟩
def rfV (x : Rf) : List Value := [.string ⟨x.nm.toArray⟩, .bool true, .slice x.a x.bs.length x.cap, .int .i64 (x.syn : Int)]
theorem layRf : Lay rfV 4 := ⟨fun _ => rfl, by decide, fun x u hu => by simp [rfV] at hu; rcases hu with rfl | rfl | rfl | rfl <;> rfl⟩
theorem kindRf : Kind Try.prog 129 126 4 56 := kind_of Try.underlying129 (z := .agg #[.string ⟨#[]⟩, .bool false, .slice none 0 0, .int .i64 0]) (by kernel_rfl) rfl
/-- The blocks of a reference's disk. -/
def RB (r : Nat) (a : Option Addr) (xs : List Rf) (g : Nat) : Prop := g = r ∨ (∃ q, a = some q ∧ q.block = g) ∨ ∃ x ∈ xs, ∃ q, x.a = some q ∧ q.block = g
structure RefAt (W : World) (r : Nat) (T : Dk) (K : Int) (a : Option Addr) (c : Nat) (xs : List Rf) : Prop where
  box : W.heap[r]? = some (.cells #[.int .i64 (T.limit : Int), .slice a xs.length c, .bool T.down, .int .i64 (T.steps : Int), .int .i64 K] 131)
  row : Rw rfV 4 W a xs.length c xs
  bys : ∀ x ∈ xs, Rw byU 1 W x.a x.bs.length x.cap x.bs
  syn : ∀ x ∈ xs, x.syn ≤ x.bs.length
  ra : ∀ q, a = some q → q.block ≠ r
  rx : ∀ x ∈ xs, ∀ q, x.a = some q → q.block ≠ r
  lt : ∀ g, RB r a xs g → g < W.heap.size
  kp : T.steps ≠ 0 → K = (T.keep : Int)
  fs : T.fs = xs.map Rf.fl
theorem RefAt.chg {W W' : World} {r c : Nat} {T : Dk} {K : Int} {a : Option Addr} {xs : List Rf} {D : Nat → Prop} (h : RefAt W r T K a c xs) (hC : Chg D W W') (hD : ∀ g, RB r a xs g → ¬ D g) : RefAt W' r T K a c xs :=
  ⟨hC.block h.box (hD _ (.inl rfl)), h.row.chg hC (fun q e => hD _ (.inr (.inl ⟨q, e, rfl⟩))), fun x hx => (h.bys x hx).chg hC (fun q e => hD _ (.inr (.inr ⟨x, hx, q, e, rfl⟩))), h.syn, h.ra, h.rx, fun g hg => Nat.lt_of_lt_of_le (h.lt g hg) hC.size, h.kp, h.fs⟩
theorem RefAt.below {W W' : World} {r c : Nat} {T : Dk} {K : Int} {a : Option Addr} {xs : List Rf} (h : RefAt W r T K a c xs) (hB : Below W.heap.size W W') : RefAt W' r T K a c xs :=
  h.chg (D := fun _ => False) (Chg.of_below hB) (fun _ _ f => f)
/-- What a call leaves of it. -/
def RNx (w w' : World) (r : Nat) (a : Option Addr) (xs : List Rf) (T' : Dk) : Prop := ∃ K' a' c' xs', RefAt w' r T' K' a' c' xs' ∧ Chg (fun g => g = r) w w' ∧ ∀ g, RB r a' xs' g → RB r a xs g ∨ w.heap.size ≤ g
theorem RefAt.nxt {w w' : World} {r c : Nat} {T : Dk} {K : Int} {a : Option Addr} {xs : List Rf} (h : RefAt w r T K a c xs) (hB : Below w.heap.size w w') : RNx w w' r a xs T := ⟨K, a, c, xs, h.below hB, Chg.of_below hB, fun _ hg => .inl hg⟩
/-- Its box is written. -/
theorem RefAt.setBox {W W' : World} {r c : Nat} {T T' : Dk} {K K' : Int} {a : Option Addr} {xs : List Rf} (h : RefAt W r T K a c xs) (hC : Chg (fun g => g = r) W W') (hb : W'.heap[r]? = some (.cells #[.int .i64 (T'.limit : Int), .slice a xs.length c, .bool T'.down, .int .i64 (T'.steps : Int), .int .i64 K'] 131)) (hk : T'.steps ≠ 0 → K' = (T'.keep : Int)) (hf : T'.fs = T.fs) : RefAt W' r T' K' a c xs :=
  ⟨hb, h.row.chg hC (fun q e => h.ra q e), fun x hx => (h.bys x hx).chg hC (fun q e => h.rx x hx q e), h.syn, h.ra, h.rx, fun g hg => Nat.lt_of_lt_of_le (h.lt g hg) hC.size, hk, hf.trans h.fs⟩
theorem RNx.trans {w w1 w2 : World} {r : Nat} {a : Option Addr} {xs : List Rf} {T2 : Dk} {a1 : Option Addr} {xs1 : List Rf} (hC : Chg (fun g => g = r) w w1) (hB : ∀ g, RB r a1 xs1 g → RB r a xs g ∨ w.heap.size ≤ g) (k : RNx w1 w2 r a1 xs1 T2) : RNx w w2 r a xs T2 := by
  obtain ⟨K', a', c', xs', h1, h2, h3⟩ := k
  have := hC.size
  exact ⟨K', a', c', xs', h1, hC.trans h2, fun g hg => by
    rcases h3 g hg with h | h
    · exact hB g h
    · exact .inr (by omega)⟩
theorem bytesLess_cmp : ∀ a b : List UInt8, Op.bytesLess a b = decide (Lib.compareBytes a b < 0)
  | [], [] => rfl
  | [], _ :: _ => rfl
  | _ :: _, [] => rfl
  | a :: x, b :: y => by
    have ih := bytesLess_cmp x y
    unfold Op.bytesLess Lib.compareBytes
    by_cases h1 : a < b
    · simp [h1]
    · by_cases h2 : b < a
      · have : a ≠ b := fun e => by subst e; exact absurd h2 (UInt8.lt_irrefl _)
        simp [h1, h2, this]
      · have : a = b := by
          have e1 : ¬ a.toNat < b.toNat := h1
          have e2 : ¬ b.toNat < a.toNat := h2
          exact UInt8.toNat_inj.1 (by omega)
        subst this
        simp [h1, ih]
set_option maxHeartbeats 1000000 in
theorem rCopied {w : World} {a : Option Addr} {n cap : Nat} {l : List UInt8} (h : Rw byU 1 w a n cap l) (hl : n ≤ 140737488351232) :
    Calls Try.prog 92 #[.slice a n cap] w fun e w' => ∃ a' cap', e = .returned (.slice a' n cap') ∧ OwnF byU 1 5 w' w.heap.size (.slice a' n cap') l ∧ Below w.heap.size w w' := by
  obtain ⟨a7, cap7, w7, hr7, ho7, hb7, _⟩ := appendU kindU layU (ownF_nil w w.heap.size) (Nat.le_refl _) h (by simp; omega) (by simp; omega) 36
  simp only [List.length_nil, Nat.zero_add, List.nil_append] at hr7 ho7
  have HX : Hid (OwnF byU 1 5 w7 w.heap.size (.slice a7 n cap7) l ∧ Below w.heap.size w w7) := ⟨ho7, hb7⟩
  clear h hl ho7 hb7
  go_enter Try.func92, Try.ntmps92
  go_wp2_with (at_builtin; refine wpList_append_hr rfl _ _ 36 rfl _ _ rfl rfl hr7 ?_)
  go_ret
  exact ⟨a7, cap7, rfl, HX.out⟩
set_option maxHeartbeats 1000000 in
theorem rNew (n : Nat) (hn : n ≤ 1099511627776) (w : World) : Calls Try.prog 59 #[.int .i64 (n : Int)] w fun e w' => e = .returned (.tuple #[.pointer (some ⟨w.heap.size, 0, none⟩), .int .i64 0]) ∧ RefAt w' w.heap.size ⟨n, [], false, 0, 0⟩ 0 none 0 [] ∧ Below w.heap.size w w' := by
  have h1 : ¬ (1099511627776 : Int) < (n : Int) := by omega
  have h0 : ¬ (n : Int) < 0 := by omega
  go_enter Try.func59, Try.ntmps59
  go_wp2_with fail
  go_ret2
  have hq : (w.alloc (.cells #[.int .i64 (n : Int), .slice none 0 0, .bool false, .int .i64 0, .int .i64 0] 131)).heap[w.heap.size]? = _ := (MapKept.heap_alloc w _).1
  refine ⟨rfl, ⟨hq, rw_nil _, by simp, by simp, by simp, by simp, fun g hg => ?_, by simp, rfl⟩, (Below.refl _ _).alloc (Nat.le_refl _) _⟩
  rcases hg with h | ⟨q, h, _⟩ | ⟨x, h, _⟩
  · rw [World.size_alloc]; omega
  · cases h
  · cases h
set_option maxHeartbeats 1000000 in
theorem rNew_bad (L : Int) (hL : L < 0 ∨ 1099511627776 < L) (w : World) : Calls Try.prog 59 #[.int .i64 L] w fun e w' => e = .returned (.tuple #[.pointer none, .int .i64 12]) ∧ w' = w := by
  by_cases h1 : L < 0
  · clear hL
    go_enter Try.func59, Try.ntmps59
    go_wp2_with fail
    go_ret2
    exact ⟨rfl, rfl⟩
  · have h2 : (1099511627776 : Int) < L := by omega
    clear hL
    go_enter Try.func59, Try.ntmps59
    go_wp2_with fail
    go_ret2
    exact ⟨rfl, rfl⟩
end Go.Proofs.Ytfehgaioioejoaa

/-! The reference's calls that write its box alone; named. -/
namespace Go.Proofs.Ytfehgaioioejoaa
open Go.RowKit Go.Lib
set_option maxRecDepth 100000

theorem setR {W : World} {p : Nat} {v0 v1 v2 v3 v4 : Value} (h : W.heap[p]? = some (.cells #[v0, v1, v2, v3, v4] 131)) (u2 u3 : Value) :
    ((W.setCell ⟨p, 2, none⟩ u2).setCell ⟨p, 3, none⟩ u3).heap[p]? = some (.cells #[v0, v1, u2, u3, v4] 131) ∧ Chg (fun g => g = p) W ((W.setCell ⟨p, 2, none⟩ u2).setCell ⟨p, 3, none⟩ u3) := by
  refine ⟨?_, (Chg.set (D := fun g => g = p) 2 W u2 rfl).trans (Chg.set 3 _ u3 rfl)⟩
  have h1 := heap_setCell_cells h 2 u2
  have h2 := heap_setCell_cells h1 3 u3
  rw [h2]
  rfl
theorem setR3 {W : World} {p : Nat} {v0 v1 v2 v3 v4 : Value} (h : W.heap[p]? = some (.cells #[v0, v1, v2, v3, v4] 131)) (u3 : Value) :
    (W.setCell ⟨p, 3, none⟩ u3).heap[p]? = some (.cells #[v0, v1, v2, u3, v4] 131) ∧ Chg (fun g => g = p) W (W.setCell ⟨p, 3, none⟩ u3) := by
  refine ⟨?_, Chg.set 3 W u3 rfl⟩
  rw [heap_setCell_cells h 3 u3]
  rfl
theorem setR34 {W : World} {p : Nat} {v0 v1 v2 v3 v4 : Value} (h : W.heap[p]? = some (.cells #[v0, v1, v2, v3, v4] 131)) (u3 u4 : Value) :
    ((W.setCell ⟨p, 3, none⟩ u3).setCell ⟨p, 4, none⟩ u4).heap[p]? = some (.cells #[v0, v1, v2, u3, u4] 131) ∧ Chg (fun g => g = p) W ((W.setCell ⟨p, 3, none⟩ u3).setCell ⟨p, 4, none⟩ u4) := by
  refine ⟨?_, (Chg.set (D := fun g => g = p) 3 W u3 rfl).trans (Chg.set 4 _ u4 rfl)⟩
  have h1 := heap_setCell_cells h 3 u3
  have h2 := heap_setCell_cells h1 4 u4
  rw [h2]
  rfl
variable {w : World} {r c : Nat} {T : Dk} {K : Int} {a : Option Addr} {xs : List Rf}
theorem RefAt.nx {w w' : World} {r c : Nat} {T T' : Dk} {K K' : Int} {a : Option Addr} {xs : List Rf} (h : RefAt w r T K a c xs) (hC : Chg (fun g => g = r) w w') (hb : w'.heap[r]? = some (.cells #[.int .i64 (T'.limit : Int), .slice a xs.length c, .bool T'.down, .int .i64 (T'.steps : Int), .int .i64 K'] 131)) (hk : T'.steps ≠ 0 → K' = (T'.keep : Int)) (hf : T'.fs = T.fs) : RNx w w' r a xs T' := ⟨K', a, c, xs, h.setBox hC hb hk hf, hC, fun _ hg => .inl hg⟩
set_option maxHeartbeats 1000000 in
theorem rUp (h : RefAt w r T K a c xs) :
    Calls Try.prog 71 #[.pointer (some ⟨r, 0, none⟩)] w fun e w' => e = .returned (.int .i64 0) ∧ RNx w w' r a xs { T with down := false, steps := 0, keep := 0 } := by
  have f2 := Lib.frozen_of_heap h.box 2
  have f3 := Lib.frozen_of_heap h.box 3
  obtain ⟨c0, c1, c2, c3, c4⟩ := box5 h.box
  have HH : Hid (RefAt w r T K a c xs) := h
  clear h
  go_enter Try.func71, Try.ntmps71
  go_wp2_with fail
  go_ret
  have hb := setR HH.out.box (.bool false) (.int .i64 0)
  exact ⟨rfl, HH.out.nx hb.2 hb.1 (by simp) rfl⟩
set_option maxHeartbeats 1000000 in
theorem rDown (h : RefAt w r T K a c xs) :
    Calls Try.prog 68 #[.pointer (some ⟨r, 0, none⟩)] w fun e w' => e = .returned (.bool T.down) ∧ w' = w := by
  obtain ⟨c0, c1, c2, c3, c4⟩ := box5 h.box
  clear h
  go_enter Try.func68, Try.ntmps68
  go_wp2_with fail
  go_ret
  exact ⟨rfl, rfl⟩
set_option maxHeartbeats 1000000 in
theorem rArm_down (h : RefAt w r T K a c xs) (hd : T.down = true) (s k : Int) :
    Calls Try.prog 69 #[.pointer (some ⟨r, 0, none⟩), .int .i64 s, .int .i64 k] w fun e w' => e = .returned (.int .i64 110) ∧ w' = w := by
  obtain ⟨c0, c1, c2, c3, c4⟩ := box5 h.box
  rw [hd] at c2
  clear h hd c0 c1 c3 c4
  go_enter Try.func69, Try.ntmps69
  go_wp2_with fail
  go_ret
  exact ⟨rfl, rfl⟩
set_option maxHeartbeats 1000000 in
theorem rArm_off (h : RefAt w r T K a c xs) (hd : T.down = false) (k : Int) :
    Calls Try.prog 69 #[.pointer (some ⟨r, 0, none⟩), .int .i64 0, .int .i64 k] w fun e w' => e = .returned (.int .i64 0) ∧ RNx w w' r a xs { T with steps := 0, keep := 0 } := by
  have f3 := Lib.frozen_of_heap h.box 3
  obtain ⟨c0, c1, c2, c3, c4⟩ := box5 h.box
  rw [hd] at c2
  have HH : Hid (RefAt w r T K a c xs) := h
  clear h hd c0 c1 c4
  go_enter Try.func69, Try.ntmps69
  go_wp2_with fail
  go_ret
  have hb := setR3 HH.out.box (.int .i64 0)
  exact ⟨rfl, HH.out.nx hb.2 hb.1 (by simp) rfl⟩
set_option maxHeartbeats 1000000 in
theorem rArm_bad (h : RefAt w r T K a c xs) (hd : T.down = false) (s k : Int) (h0 : s ≠ 0) (hb : s < 0 ∨ k < 0) :
    Calls Try.prog 69 #[.pointer (some ⟨r, 0, none⟩), .int .i64 s, .int .i64 k] w fun e w' => e = .returned (.int .i64 12) ∧ w' = w := by
  obtain ⟨c0, c1, c2, c3, c4⟩ := box5 h.box
  rw [hd] at c2
  have g1 : (s == 0) = false := beq_eq_false_iff_ne.2 h0
  clear h hd c0 c1 c3 c4
  by_cases h1 : s < 0
  · clear hb
    go_enter Try.func69, Try.ntmps69
    go_wp2_with fail
    go_ret
    exact ⟨rfl, rfl⟩
  · have h2 : k < 0 := by omega
    clear hb
    go_enter Try.func69, Try.ntmps69
    go_wp2_with fail
    go_ret
    exact ⟨rfl, rfl⟩
set_option maxHeartbeats 1000000 in
theorem rArm_set (h : RefAt w r T K a c xs) (hd : T.down = false) (s k : Nat) (h0 : 0 < s) :
    Calls Try.prog 69 #[.pointer (some ⟨r, 0, none⟩), .int .i64 (s : Int), .int .i64 (k : Int)] w fun e w' => e = .returned (.int .i64 0) ∧ RNx w w' r a xs { T with steps := s, keep := k } := by
  have f3 := Lib.frozen_of_heap h.box 3
  have f4 := Lib.frozen_of_heap h.box 4
  obtain ⟨c0, c1, c2, c3, c4⟩ := box5 h.box
  rw [hd] at c2
  have HH : Hid (RefAt w r T K a c xs) := h
  have g1 : ((s : Int) == 0) = false := beq_eq_false_iff_ne.2 (by omega)
  have g2 : ¬ ((s : Int) < 0) := by omega
  have g3 : ¬ ((k : Int) < 0) := by omega
  clear h hd c0 c1 h0
  go_enter Try.func69, Try.ntmps69
  go_wp2_with fail
  go_ret
  have hb := setR34 HH.out.box (.int .i64 (s : Int)) (.int .i64 (k : Int))
  exact ⟨rfl, HH.out.nx hb.2 hb.1 (fun _ => rfl) rfl⟩
set_option maxHeartbeats 1000000 in
/-- fires: one changing call more. -/
theorem rFires (h : RefAt w r T K a c xs) (hs : T.steps ≤ 9223372036854775807) :
    Calls Try.prog 94 #[.pointer (some ⟨r, 0, none⟩)] w fun e w' => e = .returned (.bool (decide (T.steps = 1))) ∧ RefAt w' r { T with steps := T.steps - 1 } K a c xs ∧ Chg (fun g => g = r) w w' := by
  have f3 := Lib.frozen_of_heap h.box 3
  obtain ⟨c0, c1, c2, c3, c4⟩ := box5 h.box
  have HH : Hid (RefAt w r T K a c xs) := h
  by_cases h0 : T.steps = 0
  · have g1 : ((T.steps : Int) == 0) = true := by rw [h0]; rfl
    have g2 : decide (T.steps = 1) = false := by rw [h0]; rfl
    have HT : Hid ({ T with steps := T.steps - 1 } = T) := by
      show { T with steps := T.steps - 1 } = T
      obtain ⟨t1, t2, t3, t4, t5⟩ := T
      simp only at h0
      subst h0
      rfl
    rw [g2]
    clear h h0 g2
    go_enter Try.func94, Try.ntmps94
    go_wp2_with fail
    go_ret
    exact ⟨rfl, by rw [HT.out]; exact HH.out, Chg.refl _ _⟩
  · have g1 : ((T.steps : Int) == 0) = false := beq_eq_false_iff_ne.2 (by omega)
    have g3 : IntKind.i64.wrap ((T.steps : Int) - 1) = ((T.steps - 1 : Nat) : Int) := by rw [IntWalk.i64_in _ (by omega)]; omega
    have g4 : (((T.steps - 1 : Nat) : Int) == 0) = decide (T.steps = 1) := by
      by_cases h1 : T.steps = 1
      · rw [h1]; rfl
      · rw [decide_eq_false h1]; exact beq_eq_false_iff_ne.2 (by omega)
    have HK : Hid (T.steps ≠ 0) := h0
    clear h h0 hs
    obtain ⟨m, hm⟩ : ∃ m, T.steps - 1 = m := ⟨_, rfl⟩
    obtain ⟨bl, hbl⟩ : ∃ bl, decide (T.steps = 1) = bl := ⟨_, rfl⟩
    rw [hm] at g3 g4
    rw [hbl] at g4
    rw [hm, hbl]
    have HM : Hid (T.steps - 1 = m) := hm
    clear hm hbl
    go_enter Try.func94, Try.ntmps94
    go_wp2_with fail
    go_ret
    have hb := setR3 HH.out.box (.int .i64 (m : Int))
    exact ⟨rfl, HH.out.setBox hb.2 hb.1 (fun _ => HH.out.kp HK.out) rfl, hb.2⟩
set_option maxHeartbeats 4000000 in
theorem rNamed (l : List UInt8) (hl : l.length ≤ 9223372036854775807) (w : World) : Calls Try.prog 89 #[.string ⟨l.toArray⟩] w fun e w' => e = .returned (.bool (nameOk l)) ∧ w' = w := by
  have hsz : (⟨l.toArray⟩ : ByteArray).size = l.length := by simp [ByteArray.size]
  have hx0 : ∀ (w : World) (j : Nat) (c : UInt8), l[j]? = some c → (Instr.index 9 (.string ⟨l.toArray⟩) (.int .i64 (j : Int))).run Try.prog w = .ok (.int .u8 (c.toNat : Int)) w := fun w j c hc => by
    obtain ⟨hj, rfl⟩ := List.getElem?_eq_some_iff.1 hc
    rw [run_index_string w 9 _ .i64 _ Try.underlying9, dif_pos (by constructor <;> omega)]
    rfl
  obtain ⟨r, hr⟩ : ∃ r, nameOk l = r := ⟨_, rfl⟩
  rw [hr]
  have H : Hid (nameOk l = r) := hr
  have HX : Hid (∀ (w : World) (j : Nat) (c : UInt8), l[j]? = some c → (Instr.index 9 (.string ⟨l.toArray⟩) (.int .i64 (j : Int))).run Try.prog w = .ok (.int .u8 (c.toNat : Int)) w) := hx0
  clear hr hx0
  generalize (⟨l.toArray⟩ : ByteArray) = s at *
  have HZ : Hid (s.size = l.length) := hsz
  clear hsz
  have hsz := HZ.out
  by_cases h0 : l.length = 0
  · have b0 : (s.size : Int) < 1 := by rw [hsz, h0]; decide
    have hr : r = false := by rw [← H.out]; unfold nameOk; simp [h0]
    subst hr
    clear hsz h0
    go_enter Try.func89, Try.ntmps89
    go_wp2_with fail
    go_ret
    exact ⟨rfl, rfl⟩
  · have b0 : ¬ (s.size : Int) < 1 := by rw [hsz]; omega
    by_cases h1 : l.length ≤ 32
    · have b1 : ¬ ((32 : Int) < (s.size : Int)) := by rw [hsz]; omega
      have hs2 : s.size ≤ 32 := by omega
      clear hsz
      have HL : Hid (¬ l.length = 0 ∧ l.length ≤ 32) := ⟨h0, h1⟩
      clear h0 h1
      go_enter Try.func89, Try.ntmps89
      go_wp2_with fail
      go_loopw [3] (fun v wr => ∃ j : Nat, j ≤ s.size ∧ v = .int .i64 (j : Int) ∧ wr = w ∧ Hid (∀ c ∈ l.take j, inN c.toNat = true)) (fun v _ => s.size - (RowKit.intOf v).toNat)
      case atStart => exact ⟨0, Nat.zero_le _, rfl, rfl, fun c hc => by simp at hc⟩
      case round =>
        obtain ⟨j, hj, rfl, rfl, hc⟩ := hrel
        by_cases hlt2 : j < s.size
        · have hlt : j < l.length := by rw [← HZ.out]; exact hlt2
          have hk : (j : Int) < (s.size : Int) := by omega
          obtain ⟨c, hcc⟩ : ∃ c, l[j] = c := ⟨_, rfl⟩
          have HCC : Hid (l[j]? = some c) := by rw [← hcc]; exact List.getElem?_eq_getElem hlt
          have hx := HX.out wr j c HCC.out
          clear hcc hlt
          obtain ⟨n, hn⟩ : ∃ n, c.toNat = n := ⟨_, rfl⟩
          have HN : Hid (c.toNat = n) := hn
          rw [hn] at hx
          clear hn
          have gi : IntKind.i64.wrap ((j : Int) + 1) = ((j + 1 : Nat) : Int) := by rw [IntWalk.i64_in _ (by omega)]; omega
          by_cases h1 : (97 : Int) ≤ (n : Int) <;> by_cases h2 : (n : Int) ≤ 122 <;> by_cases h3 : (48 : Int) ≤ (n : Int) <;> by_cases h4 : (n : Int) ≤ 57 <;> by_cases h5 : (n : Int) = 46 <;> by_cases h6 : (n : Int) = 95 <;> by_cases h7 : (n : Int) = 45 <;> first
            | (exfalso; omega)
            | ((first | have a5 : ((n : Int) != 46) = false := by rw [h5]; rfl | have a5 : ((n : Int) != 46) = true := bne_iff_ne.2 h5)
               (first | have a6 : ((n : Int) != 95) = false := by rw [h6]; rfl | have a6 : ((n : Int) != 95) = true := bne_iff_ne.2 h6)
               (first | have a7 : ((n : Int) != 45) = false := by rw [h7]; rfl | have a7 : ((n : Int) != 45) = true := bne_iff_ne.2 h7)
               first
               | (have hin : inN n = true := by (unfold inN; simp only [Bool.or_eq_true, Bool.and_eq_true, decide_eq_true_eq]; omega)
                  have HIN : Hid (inN c.toNat = true) := by rw [HN.out]; exact hin
                  clear hin
                  go_wp2_with fail
                  go_roundw
                  case rel =>
                    refine ⟨j + 1, by omega, by go_num, trivial, fun d hc2 => ?_⟩
                    rw [List.take_add_one, HCC.out] at hc2
                    rcases List.mem_append.1 hc2 with h | h
                    · exact hc.out d h
                    · simp at h; subst h; exact HIN.out
                  case measure => simp [RowKit.intOf]; omega)
               | (have hin : inN n = false := by (unfold inN; simp only [Bool.or_eq_false_iff, Bool.and_eq_false_iff, decide_eq_false_iff_not]; omega)
                  have hr : r = false := by
                    rw [← H.out]; unfold nameOk
                    have : l.all (fun c => inN c.toNat) = false := by
                      rw [List.all_eq_false]
                      exact ⟨c, List.mem_of_getElem? HCC.out, by rw [HN.out, hin]; simp⟩
                    simp [this]
                  subst hr
                  clear hin
                  go_wp2_with fail
                  go_ret
                  exact ⟨rfl, rfl⟩))
        · obtain rfl : j = s.size := by omega
          have hk : ¬ ((s.size : Int) < (s.size : Int)) := by omega
          have hr : r = true := by
            rw [← H.out]; unfold nameOk
            have : l.all (fun c => inN c.toNat) = true := by
              rw [List.all_eq_true]
              intro c hc2
              exact hc.out c (by rw [HZ.out, List.take_length]; exact hc2)
            have := HL.out; simp [*]
          subst hr
          go_wp2_with fail
          go_ret
          exact ⟨rfl, rfl⟩
    · have b1 : (32 : Int) < (s.size : Int) := by rw [hsz]; omega
      have hr : r = false := by rw [← H.out]; unfold nameOk; simp [h1]
      subst hr
      clear hsz h1
      go_enter Try.func89, Try.ntmps89
      go_wp2_with fail
      go_ret
      exact ⟨rfl, rfl⟩
end Go.Proofs.Ytfehgaioioejoaa

/-! The reference's file. -/
namespace Go.Proofs.Ytfehgaioioejoaa
open Go.RowKit Go.Lib
set_option maxRecDepth 100000

theorem name_ne {a b : List UInt8} (h : a ≠ b) : ((⟨a.toArray⟩ : ByteArray).toList == (⟨b.toArray⟩ : ByteArray).toList) = false := by
  rw [ByteArray.toList_eq, ByteArray.toList_eq]
  simpa using h
theorem name_eq (a : List UInt8) : ((⟨a.toArray⟩ : ByteArray).toList == (⟨a.toArray⟩ : ByteArray).toList) = true := by simp
theorem set4 {W : World} {q : Nat} {T : TypeId} {u0 u1 u2 u3 : Value} (h : W.heap[q]? = some (.cells #[u0, u1, u2, u3] T)) (v0 v1 v2 v3 : Value) :
    ∃ W9, (((W.setCell ⟨q, 0, none⟩ v0).setCell ⟨q, 1, none⟩ v1).setCell ⟨q, 2, none⟩ v2).setCell ⟨q, 3, none⟩ v3 = W9 ∧ W9.heap[q]? = some (.cells #[v0, v1, v2, v3] T) ∧ Chg (fun g => g = q) W W9 := by
  have e0 := heap_setCell_cells h 0 v0
  have e1 := heap_setCell_cells e0 1 v1
  have e2 := heap_setCell_cells e1 2 v2
  have e3 := heap_setCell_cells e2 3 v3
  have hs : ∀ (i : Nat) (W : World) (u : Value), Chg (fun g => g = q) W (W.setCell ⟨q, i, none⟩ u) := fun i W u => Chg.set (D := fun g => g = q) (q := q) i W u rfl
  exact ⟨_, rfl, e3, (((hs 0 _ _).trans (hs 1 _ _)).trans (hs 2 _ _)).trans (hs 3 _ _)⟩
theorem box4 {W : World} {b : Nat} {T : TypeId} {v0 v1 v2 v3 : Value} (h : W.heap[b]? = some (.cells #[v0, v1, v2, v3] T)) : W.cell? ⟨b, 0, none⟩ = some v0 ∧ W.cell? ⟨b, 1, none⟩ = some v1 ∧ W.cell? ⟨b, 2, none⟩ = some v2 ∧ W.cell? ⟨b, 3, none⟩ = some v3 := by
  simp only [Lib.cell_of_heap h]
  exact ⟨rfl, rfl, rfl, rfl⟩
def rfA (x : Rf) : Value := .agg #[.string ⟨x.nm.toArray⟩, .bool true, .slice x.a x.bs.length x.cap, .int .i64 (x.syn : Int)]
def noA (nm : List UInt8) : Value := .agg #[.string ⟨nm.toArray⟩, .bool false, .slice none 0 0, .int .i64 0]
/-- What file answers. -/
def fileA (xs : List Rf) (nm : List UInt8) : Value := match xs.find? (fun x => decide (x.nm = nm)) with | some x => rfA x | none => noA nm
theorem fileA_hit {xs : List Rf} {nm : List UInt8} {i : Nat} {o : Rf} (ho : xs[i]? = some o) (he : o.nm = nm) (hy : ∀ y ∈ xs.take i, y.nm ≠ nm) : fileA xs nm = rfA o := by
  have hi := (List.getElem?_eq_some_iff.1 ho).1
  have e : xs = xs.take i ++ o :: xs.drop (i + 1) := by
    rw [List.getElem?_eq_some_iff] at ho
    obtain ⟨_, rfl⟩ := ho
    rw [← List.drop_eq_getElem_cons hi, List.take_append_drop]
  unfold fileA
  have h1 : (xs.take i).find? (fun x => decide (x.nm = nm)) = none := by
    rw [List.find?_eq_none]
    intro y hy2
    simpa using hy y hy2
  rw [e, List.find?_append, h1, List.find?_cons_of_pos (by simp [he])]
  rfl
theorem fileA_miss {xs : List Rf} {nm : List UInt8} (hy : ∀ y ∈ xs, y.nm ≠ nm) : fileA xs nm = noA nm := by
  unfold fileA
  have h1 : xs.find? (fun x => decide (x.nm = nm)) = none := by
    rw [List.find?_eq_none]
    intro y hy2
    simpa using hy y hy2
  rw [h1]
variable {w : World} {r c : Nat} {T : Dk} {K : Int} {a : Option Addr} {xs : List Rf}
set_option maxHeartbeats 2000000 in
theorem rFile (h : RefAt w r T K a c xs) (hn : xs.length ≤ 4398046511104) (nm : List UInt8) :
    Calls Try.prog 90 #[.pointer (some ⟨r, 0, none⟩), .string ⟨nm.toArray⟩] w fun e w' => e = .returned (fileA xs nm) ∧ Below w.heap.size w w' := by
  obtain ⟨W0, hW0⟩ : ∃ W0, w.alloc (.cells #[.string ⟨#[]⟩, .bool false, .slice none 0 0, .int .i64 0] 126) = W0 := ⟨_, rfl⟩
  have hb0 : Below w.heap.size w W0 := by rw [← hW0]; exact (Below.refl _ _).alloc (Nat.le_refl _) _
  have hq : W0.heap[w.heap.size]? = some (.cells #[.string ⟨#[]⟩, .bool false, .slice none 0 0, .int .i64 0] 126) := by rw [← hW0]; exact (MapKept.heap_alloc w _).1
  have h := h.below hb0
  obtain ⟨c0, c1, c2, c3, c4⟩ := box5 h.box
  have HH : Hid (RefAt W0 r T K a c xs ∧ Below w.heap.size w W0 ∧ W0.heap[w.heap.size]? = some (.cells #[.string ⟨#[]⟩, .bool false, .slice none 0 0, .int .i64 0] 126)) := ⟨h, hb0, hq⟩
  have hnc : (xs.length : Int) ≤ 4398046511104 := by omega
  obtain ⟨fa, hfa⟩ : ∃ fa, fileA xs nm = fa := ⟨_, rfl⟩
  have HFA : Hid (fileA xs nm = fa) := hfa
  rw [hfa]
  clear h c0 c2 c3 c4 hn hb0 hq hfa
  obtain ⟨n, hn⟩ : ∃ n, xs.length = n := ⟨_, rfl⟩
  have HN : Hid (xs.length = n) := hn
  rw [hn] at c1 hnc
  clear hn
  go_enter Try.func90, Try.ntmps90
  go_wp2_with fail
  go_loopw [5] (fun v wr => ∃ i : Nat, i ≤ n ∧ v = .int .i64 (i : Int) ∧ wr = W0 ∧ Hid (∀ y ∈ xs.take i, y.nm ≠ nm)) (fun v _ => n - (RowKit.intOf v).toNat)
  case atStart => exact ⟨0, Nat.zero_le _, rfl, rfl, fun y hy => by simp at hy⟩
  case round =>
    obtain ⟨i, hi, rfl, hwr, hy⟩ := hrel
    subst hwr
    by_cases hlt : i < n
    · have hlt2 : (i : Int) < (n : Int) := by omega
      have hrow := HH.out.1.row
      rw [HN.out] at hrow
      obtain ⟨g, off, o, hoa, hgl, hoi, hcell⟩ := hrow.at i hlt
      subst hoa
      have o0 := hcell 0 _ rfl
      have o1 := hcell 1 _ rfl
      have o2 := hcell 2 _ rfl
      have o3 := hcell 3 _ rfl
      rw [Nat.add_zero] at o0
      have gi : IntKind.i64.wrap ((i : Int) + 1) = ((i + 1 : Nat) : Int) := by rw [IntWalk.i64_in _ (by omega)]; omega
      have HOI : Hid (xs[i]? = some o) := hoi
      by_cases he : o.nm = nm
      · have q1 := name_eq nm
        have hfv : fa = rfA o := by rw [← HFA.out]; exact fileA_hit hoi he hy.out
        unfold rfA at hfv
        rw [he] at o0 hfv
        clear hcell hgl hoi hrow he
        generalize (⟨nm.toArray⟩ : ByteArray) = s at *
        have hAW := HH.out.2.2
        obtain ⟨W9, hW9, hh9, hC9⟩ := set4 hAW (.string s) (.bool true) (.slice o.a o.bs.length o.cap) (.int .i64 (o.syn : Int))
        obtain ⟨y0, y1, y2, y3⟩ := box4 hAW
        have k0 := Lib.frozen_of_heap hAW 0
        have k1 := Lib.frozen_of_heap hAW 1
        have k2 := Lib.frozen_of_heap hAW 2
        have k3 := Lib.frozen_of_heap hAW 3
        obtain ⟨r0, r1, r2, r3⟩ := box4 hh9
        have HB : Hid (Below w.heap.size w W9) := HH.out.2.1.trans (hC9.below (fun g e => by omega) HH.out.2.1.size)
        have HFV : Hid (fa = .agg #[.string s, .bool true, .slice o.a o.bs.length o.cap, .int .i64 (o.syn : Int)]) := hfv
        clear hAW hh9 hC9 hfv
        go_wp2_with fail
        refine bodyPost_ret (v := .agg #[.string s, .bool true, .slice o.a o.bs.length o.cap, .int .i64 (o.syn : Int)]) (by simp [results, Try.results90, go_sem, r0, r1, r2, r3]) rfl ?_
        exact ⟨by rw [HFV.out], HB.out⟩
      · have q1 := name_ne he
        have HE : Hid (o.nm ≠ nm) := he
        clear hcell hgl hoi hrow he
        generalize (⟨nm.toArray⟩ : ByteArray) = s at *
        generalize (⟨o.nm.toArray⟩ : ByteArray) = s2 at *
        go_wp2_with fail
        go_roundw
        case rel =>
          refine ⟨i + 1, by omega, by first | rfl | go_num, trivial, fun y hy2 => ?_⟩
          rw [List.take_add_one, HOI.out] at hy2
          rcases List.mem_append.1 hy2 with h | h
          · exact hy.out y h
          · simp at h; subst h; exact HE.out
        case measure => simp [RowKit.intOf]; omega
    · obtain rfl : i = n := by omega
      have hlt2 : ¬ ((i : Int) < (i : Int)) := by omega
      have hfv : fa = noA nm := by rw [← HFA.out]; exact fileA_miss (fun y hy2 => hy.out y (by rw [← HN.out, List.take_length]; exact hy2))
      unfold noA at hfv
      generalize (⟨nm.toArray⟩ : ByteArray) = s at *
      have hAW := HH.out.2.2
      obtain ⟨W9, hW9, hh9, hC9⟩ := set4 hAW (.string s) (.bool false) (.slice none 0 0) (.int .i64 0)
      obtain ⟨y0, y1, y2, y3⟩ := box4 hAW
      have k0 := Lib.frozen_of_heap hAW 0
      have k1 := Lib.frozen_of_heap hAW 1
      have k2 := Lib.frozen_of_heap hAW 2
      have k3 := Lib.frozen_of_heap hAW 3
      obtain ⟨r0, r1, r2, r3⟩ := box4 hh9
      have HB : Hid (Below w.heap.size w W9) := HH.out.2.1.trans (hC9.below (fun g e => by omega) HH.out.2.1.size)
      have HFV : Hid (fa = .agg #[.string s, .bool false, .slice none 0 0, .int .i64 0]) := hfv
      clear hAW hh9 hC9 hfv
      go_wp2_with fail
      refine bodyPost_ret (v := .agg #[.string s, .bool false, .slice none 0 0, .int .i64 0]) (by simp [results, Try.results90, go_sem, r0, r1, r2, r3]) rfl ?_
      exact ⟨by rw [HFV.out], HB.out⟩
end Go.Proofs.Ytfehgaioioejoaa

/-! The reference's store. -/
namespace Go.Proofs.Ytfehgaioioejoaa
open Go.RowKit Go.Lib
set_option maxRecDepth 100000

/-- Where a file takes its place among the others. -/
def storeL (f : Rf) : Bool → List Rf → List Rf
  | dn, [] => if dn then [] else [f]
  | dn, g :: t => (if !dn && Op.bytesLess f.nm g.nm then [f] else []) ++ ((if g.nm = f.nm then (if dn || Op.bytesLess f.nm g.nm then [] else [f]) else [g]) ++ storeL f (dn || Op.bytesLess f.nm g.nm || decide (g.nm = f.nm)) t)
theorem mem_storeL {f : Rf} : ∀ {xs : List Rf} {dn : Bool} {x : Rf}, x ∈ storeL f dn xs → x ∈ xs ∨ (dn = false ∧ x = f)
  | [], dn, x, h => by
    unfold storeL at h
    cases dn <;> simp_all
  | g :: t, dn, x, h => by
    unfold storeL at h
    rcases List.mem_append.1 h with h | h
    · split at h
      · rename_i hc
        simp at h
        subst h
        cases dn <;> simp_all
      · simp at h
    · rcases List.mem_append.1 h with h | h
      · split at h
        · split at h
          · simp at h
          · rename_i hc
            simp at h
            subst h
            cases dn <;> simp_all
        · simp at h
          subst h
          exact .inl (List.mem_cons_self ..)
      · rcases mem_storeL h with h | ⟨h, rfl⟩
        · exact .inl (List.mem_cons_of_mem _ h)
        · cases dn <;> simp_all
theorem storeL_len {f : Rf} : ∀ {xs : List Rf} {dn : Bool}, (storeL f dn xs).length ≤ xs.length + (if dn then 0 else 1)
  | [], dn => by unfold storeL; cases dn <;> simp
  | g :: t, dn => by
    have := storeL_len (f := f) (xs := t) (dn := dn || Op.bytesLess f.nm g.nm || decide (g.nm = f.nm))
    unfold storeL
    rw [List.length_append, List.length_append, List.length_cons]
    cases dn <;> cases hb : Op.bytesLess f.nm g.nm <;> by_cases he : g.nm = f.nm <;> simp_all <;> omega
variable {w : World} {r c : Nat} {T : Dk} {K : Int} {a : Option Addr} {xs : List Rf}
/-- Where store stands. -/
structure StI (W0 wr : World) (f : Rf) (d0 : Bool) (xs : List Rf) (i : Nat) (v : Value) (dn : Bool) (zs : List Rf) : Prop where
  own : OwnF rfV 4 126 wr W0.heap.size v zs
  below : Below W0.heap.size W0 wr
  st : zs ++ storeL f dn (xs.drop i) = storeL f d0 xs
  df : dn = false → d0 = false
theorem less_irrefl : ∀ a : List UInt8, Op.bytesLess a a = false
  | [] => rfl
  | x :: t => by
    have := less_irrefl t
    unfold Op.bytesLess
    simp [this]
theorem less_of (a b : List UInt8) : Op.bytesLess (⟨a.toArray⟩ : ByteArray).toList (⟨b.toArray⟩ : ByteArray).toList = Op.bytesLess a b := by
  rw [ByteArray.toList_eq, ByteArray.toList_eq]
theorem drop_at {xs : List Rf} {i : Nat} {o : Rf} (h : xs[i]? = some o) : xs.drop i = o :: xs.drop (i + 1) := by
  obtain ⟨hi, rfl⟩ := List.getElem?_eq_some_iff.1 h
  exact List.drop_eq_getElem_cons hi
theorem own_shapeR {W : World} {B : Nat} {v : Value} {l : List Rf} (h : OwnF rfV 4 126 W B v l) : ∃ a cap, v = .slice a l.length cap ∧ Rw rfV 4 W a l.length cap l ∧ ∀ q, a = some q → B ≤ q.block ∧ q.block < W.heap.size := by
  have h0 := h
  rcases h.2 with ⟨rfl, h1⟩ | ⟨g, cap, cur, rfl, h1, hh, _⟩
  · have hl : l = [] := List.length_eq_zero_iff.1 h1
    subst hl
    exact ⟨none, 0, rfl, rw_nil W, fun q e => by cases e⟩
  · exact ⟨_, cap, rfl, h0.rw_ layRf, fun q e => by cases e; exact ⟨h1, (Array.getElem?_eq_some_iff.1 hh).1⟩⟩
/-- What store leaves. -/
def StoreP (w w' : World) (r : Nat) (T : Dk) (K : Int) (l : List Rf) : Prop := ∃ a' c', RefAt w' r { T with fs := l.map Rf.fl } K a' c' l ∧ Chg (fun g => g = r) w w' ∧ ∀ q, a' = some q → w.heap.size ≤ q.block
theorem StI.ends {W0 wo W9 : World} {f : Rf} {d0 : Bool} {zs : List Rf} {a' : Option Addr} {c' : Nat} (h : RefAt w r T K a c xs) (hb0 : Below w.heap.size w W0) (hf : d0 = false → Rw byU 1 w f.a f.bs.length f.cap f.bs ∧ f.syn ≤ f.bs.length ∧ ∀ q, f.a = some q → q.block ≠ r ∧ q.block < w.heap.size)
    (ho : OwnF rfV 4 126 wo W0.heap.size (.slice a' zs.length c') zs) (hb : Below W0.heap.size W0 wo) (hst : zs = storeL f d0 xs) (hC : Chg (fun g => g = r) wo W9) (hbox : W9.heap[r]? = some (.cells #[.int .i64 (T.limit : Int), .slice a' zs.length c', .bool T.down, .int .i64 (T.steps : Int), .int .i64 K] 131)) :
    StoreP w W9 r T K (storeL f d0 xs) := by
  have hrw := h.lt r (.inl rfl)
  have hsz := hb0.size
  have hsz2 := hb.size
  obtain ⟨a2, c2, e2, hrow, hq⟩ := own_shapeR ho
  simp only [Value.slice.injEq, true_and] at e2
  obtain ⟨rfl, rfl⟩ := e2
  have hwo : Below w.heap.size w wo := hb0.trans (hb.mono hsz)
  have hall : Chg (fun g => g = r) w W9 := (Chg.of_below hwo).trans hC
  have hmem : ∀ x ∈ zs, x ∈ xs ∨ (d0 = false ∧ x = f) := fun x hx => mem_storeL (hst ▸ hx)
  have hby : ∀ x ∈ zs, Rw byU 1 w x.a x.bs.length x.cap x.bs ∧ x.syn ≤ x.bs.length ∧ ∀ q, x.a = some q → q.block ≠ r ∧ q.block < w.heap.size := fun x hx => by
    rcases hmem x hx with hx | ⟨hd, rfl⟩
    · exact ⟨h.bys x hx, h.syn x hx, fun q e => ⟨h.rx x hx q e, h.lt _ (.inr (.inr ⟨x, hx, q, e, rfl⟩))⟩⟩
    · exact hf hd
  subst hst
  refine ⟨a', c', ⟨hbox, hrow.chg hC (fun q e => by have := hq q e; omega), fun x hx => (hby x hx).1.chg hall (fun q e => ((hby x hx).2.2 q e).1), fun x hx => (hby x hx).2.1, fun q e => by have := hq q e; omega, fun x hx q e => ((hby x hx).2.2 q e).1, fun g hg => ?_, h.kp, rfl⟩, hall, fun q e => by have := hq q e; omega⟩
  have hs9 := hC.size
  rcases hg with rfl | ⟨q, e, rfl⟩ | ⟨x, hx, q, e, rfl⟩
  · omega
  · have := hq q e; omega
  · have := ((hby x hx).2.2 q e).2; omega
theorem setR1 {W : World} {p : Nat} {v0 v1 v2 v3 v4 : Value} (h : W.heap[p]? = some (.cells #[v0, v1, v2, v3, v4] 131)) (u : Value) :
    ∃ W9, W.setCell ⟨p, 1, none⟩ u = W9 ∧ W9.heap[p]? = some (.cells #[v0, u, v2, v3, v4] 131) ∧ Chg (fun g => g = p) W W9 := by
  refine ⟨_, rfl, ?_, Chg.set 1 W u rfl⟩
  rw [heap_setCell_cells h 1 u]
  rfl
set_option maxHeartbeats 8000000 in
theorem rStore (h : RefAt w r T K a c xs) (hn : xs.length ≤ 1073741824) (f : Rf) (th : Bool) (hf : th = true → Rw byU 1 w f.a f.bs.length f.cap f.bs ∧ f.syn ≤ f.bs.length ∧ ∀ q, f.a = some q → q.block ≠ r ∧ q.block < w.heap.size) :
    Calls Try.prog 91 #[.pointer (some ⟨r, 0, none⟩), .agg #[.string ⟨f.nm.toArray⟩, .bool th, .slice f.a f.bs.length f.cap, .int .i64 (f.syn : Int)]] w fun e w' => e = .returned (.tuple #[]) ∧ StoreP w w' r T K (storeL f (!th) xs) := by
  obtain ⟨W0, hW0⟩ : ∃ W0, w.alloc (.cells #[.string ⟨f.nm.toArray⟩, .bool th, .slice f.a f.bs.length f.cap, .int .i64 (f.syn : Int)] 126) = W0 := ⟨_, rfl⟩
  have hs0 : W0.heap.size = w.heap.size + 1 := by rw [← hW0, World.size_alloc]
  have hb0 : Below w.heap.size w W0 := by rw [← hW0]; exact (Below.refl _ _).alloc (Nat.le_refl _) _
  have hq : W0.heap[w.heap.size]? = some (.cells #[.string ⟨f.nm.toArray⟩, .bool th, .slice f.a f.bs.length f.cap, .int .i64 (f.syn : Int)] 126) := by rw [← hW0]; exact (MapKept.heap_alloc w _).1
  obtain ⟨d0, hd0⟩ : ∃ d0, (!th) = d0 := ⟨_, rfl⟩
  have HH : Hid (RefAt w r T K a c xs ∧ Below w.heap.size w W0 ∧ W0.heap[w.heap.size]? = some (.cells #[.string ⟨f.nm.toArray⟩, .bool th, .slice f.a f.bs.length f.cap, .int .i64 (f.syn : Int)] 126) ∧ xs.length ≤ 1073741824 ∧ (!th) = d0 ∧ W0.heap.size = w.heap.size + 1) := ⟨h, hb0, hq, hn, hd0, hs0⟩
  have HF : Hid (th = true → Rw byU 1 w f.a f.bs.length f.cap f.bs ∧ f.syn ≤ f.bs.length ∧ ∀ q, f.a = some q → q.block ≠ r ∧ q.block < w.heap.size) := hf
  have hR := h.below hb0
  obtain ⟨c0, c1, c2, c3, c4⟩ := box5 hR.box
  have HR0 : Hid (RefAt W0 r T K a c xs) := hR
  obtain ⟨f0, f1, f2, f3⟩ := box4 hq
  have hnc : (xs.length : Int) ≤ 1073741824 := by omega
  clear h c0 c2 c3 c4 hn hb0 hq hf hs0 hR
  obtain ⟨n, hn⟩ : ∃ n, xs.length = n := ⟨_, rfl⟩
  have HN : Hid (xs.length = n) := hn
  rw [hn] at c1 hnc
  clear hn
  go_enter Try.func91, Try.ntmps91
  go_wp2_with fail
  clear hd0 hW0 f0 f1 f2 f3 c1
  go_loopw [4, 5, 6] (fun vo vd vi wr => ∃ i : Nat, i ≤ n ∧ vi = .int .i64 (i : Int) ∧ ∃ (dn : Bool) (zs : List Rf), vd = .bool dn ∧ Hid (StI W0 wr f d0 xs i vo dn zs)) (fun _ _ vi _ => n - (RowKit.intOf vi).toNat)
  case atStart => exact ⟨0, Nat.zero_le _, rfl, d0, [], rfl, ownF_nil _ _, Below.refl _ _, by simp, fun e => e⟩
  case round =>
    obtain ⟨wo, hwo⟩ : ∃ wo, wo = wr := ⟨_, rfl⟩
    subst hwo
    obtain ⟨i, hi, rfl, dn, zs, rfl, hS⟩ := hrel
    obtain ⟨v, hv⟩ : ∃ v, v = u4 := ⟨_, rfl⟩
    subst hv
    have hbw : Below w.heap.size w wo := HH.out.2.1.trans (hS.out.below.mono (by have := HH.out.2.2.2.2.2; omega))
    have hRw := HR0.out.below hS.out.below
    have c1 := (box5 hRw.box).2.1
    rw [HN.out] at c1
    have hfb : wo.heap[w.heap.size]? = some (.cells #[.string ⟨f.nm.toArray⟩, .bool th, .slice f.a f.bs.length f.cap, .int .i64 (f.syn : Int)] 126) := (hS.out.below.block _ (by have := HH.out.2.2.2.2.2; omega)).trans HH.out.2.2.1
    have HFB : Hid (wo.heap[w.heap.size]? = some (.cells #[.string ⟨f.nm.toArray⟩, .bool th, .slice f.a f.bs.length f.cap, .int .i64 (f.syn : Int)] 126) ∧ w.heap.size < wo.heap.size) := ⟨hfb, (Array.getElem?_eq_some_iff.1 hfb).1⟩
    by_cases hlt : i < n
    · have hlt2 : (i : Int) < (n : Int) := by omega
      have gi : IntKind.i64.wrap ((i : Int) + 1) = ((i + 1 : Nat) : Int) := by rw [IntWalk.i64_in _ (by omega)]; omega
      have hrow := hRw.row
      rw [HN.out] at hrow
      obtain ⟨g, off, o, hoa, hgl, hoi, hcell⟩ := hrow.at i hlt
      subst hoa
      have o0 := hcell 0 _ rfl
      have o1 := hcell 1 _ rfl
      have o2 := hcell 2 _ rfl
      have o3 := hcell 3 _ rfl
      rw [Nat.add_zero] at o0
      have HDR : Hid (xs.drop i = o :: xs.drop (i + 1)) := drop_at hoi
      obtain ⟨V5, hV5⟩ : ∃ V5, wo.alloc (.cells #[.string ⟨#[]⟩, .bool false, .slice none 0 0, .int .i64 0] 126) = V5 := ⟨_, rfl⟩
      have hV5b : Below wo.heap.size wo V5 := by rw [← hV5]; exact (Below.refl _ _).alloc (Nat.le_refl _) _
      have hV5s : V5.heap.size = wo.heap.size + 1 := by rw [← hV5, World.size_alloc]
      have hV5h : V5.heap[wo.heap.size]? = some (.cells #[.string ⟨#[]⟩, .bool false, .slice none 0 0, .int .i64 0] 126) := by rw [← hV5]; exact (MapKept.heap_alloc wo _).1
      obtain ⟨V6, hV6, hh9, hC9⟩ := set4 hV5h (.string ⟨o.nm.toArray⟩) (.bool true) (.slice o.a o.bs.length o.cap) (.int .i64 (o.syn : Int))
      obtain ⟨y0, y1, y2, y3⟩ := box4 hV5h
      have k0 := Lib.frozen_of_heap hV5h 0
      have k1 := Lib.frozen_of_heap hV5h 1
      have k2 := Lib.frozen_of_heap hV5h 2
      have k3 := Lib.frozen_of_heap hV5h 3
      obtain ⟨r0, r1, r2, r3⟩ := box4 hh9
      have hb6 : Below wo.heap.size wo V6 := hV5b.trans (hC9.below (fun x e => by omega) hV5b.size)
      have HO6 : Hid (OwnF rfV 4 126 V6 W0.heap.size v zs ∧ W0.heap.size ≤ V6.heap.size ∧ V6.heap[wo.heap.size]? = some (.cells #[.string ⟨o.nm.toArray⟩, .bool true, .slice o.a o.bs.length o.cap, .int .i64 (o.syn : Int)] 126) ∧ wo.heap.size < V6.heap.size ∧ v.ownBlock ≠ some wo.heap.size ∧ Below W0.heap.size W0 V6) :=
        ⟨hS.out.own.below hb6, Nat.le_trans hS.out.below.size hb6.size, hh9, (Array.getElem?_eq_some_iff.1 hh9).1, fun e => by have := hS.out.own.lt e; omega, hS.out.below.trans (hb6.mono hS.out.below.size)⟩
      have hf6 : V6.heap[w.heap.size]? = some (.cells #[.string ⟨f.nm.toArray⟩, .bool th, .slice f.a f.bs.length f.cap, .int .i64 (f.syn : Int)] 126) := (hb6.block _ HFB.out.2).trans HFB.out.1
      have HLN : Hid (zs.length ≤ 1073741825) := by
        have h1 := congrArg List.length hS.out.st
        have h2 := storeL_len (f := f) (xs := xs) (dn := d0)
        have h3 := HH.out.2.2.2.1
        rw [List.length_append] at h1
        show zs.length ≤ _
        split at h2 <;> omega
      obtain ⟨p0, p1, p2, p3⟩ := box4 hf6
      have hlo := less_of f.nm o.nm
      clear hcell hgl hoi hrow hRw hbw hh9 hC9 hb6 hV5b hV5h hV5s hfb
      cases dn with
      | true =>
        clear hf6
        by_cases he : o.nm = f.nm
        · have HLB : Hid (True) := trivial
          have HEQ : Hid (o.nm = f.nm) := he
          have q1 : ((⟨o.nm.toArray⟩ : ByteArray).toList == (⟨f.nm.toArray⟩ : ByteArray).toList) = true := by rw [he]; simp
          clear he hlo
          have HS : Hid (StI W0 V6 f d0 xs (i + 1) v true (zs)) := ⟨HO6.out.1, HO6.out.2.2.2.2.2, by rw [← hS.out.st, HDR.out, storeL]; simp [HEQ.out], (fun e => by cases e)⟩
          generalize (⟨f.nm.toArray⟩ : ByteArray) = sf at *
          generalize (⟨o.nm.toArray⟩ : ByteArray) = so at *
          go_wp2_with fail
          go_roundw
          case rel => exact ⟨i + 1, by omega, by first | rfl | go_num, true, _, by first | rfl | trivial, HS.out⟩
          case measure => simp [RowKit.intOf]; omega
        · have HLB : Hid (True) := trivial
          have HEQ : Hid (¬ o.nm = f.nm) := he
          have q1 := name_ne he
          clear he hlo
          obtain ⟨g8, cap8, w8, hr8, ho8, hb8, hk8, hs8, hat8⟩ := appendF_one kindRf layRf HO6.out.1 HO6.out.2.1 (o : Rf) #[.string ⟨o.nm.toArray⟩, .bool true, .slice o.a o.bs.length o.cap, .int .i64 (o.syn : Int)] rfl 126 (by have := HLN.out; (try simp only [List.length_append, List.length_singleton]); omega) (by have := HLN.out; (try simp only [List.length_append, List.length_singleton]); omega) 129
          have HS : Hid (StI W0 w8 f d0 xs (i + 1) (.slice (some ⟨g8, 0, none⟩) (zs.length + 1) cap8) true (zs ++ [o])) := ⟨ho8, (HO6.out.2.2.2.2.2.trans hb8), by rw [← hS.out.st, HDR.out, storeL]; simp [HEQ.out], (fun e => by cases e)⟩
          clear ho8 hb8 hk8 hs8 hat8
          generalize (⟨f.nm.toArray⟩ : ByteArray) = sf at *
          generalize (⟨o.nm.toArray⟩ : ByteArray) = so at *
          go_wp2_with (at_builtin; refine wpList_append_hr rfl _ _ 129 rfl _ _ rfl rfl hr8 ?_)
          go_roundw
          case rel => exact ⟨i + 1, by omega, by first | rfl | go_num, true, _, by first | rfl | trivial, HS.out⟩
          case measure => simp [RowKit.intOf]; omega
      | false =>
        have hth : th = true := by
          have h1 := hS.out.df rfl
          have h2 := HH.out.2.2.2.2.1
          rw [h1] at h2
          cases th <;> simp_all
        rw [hth] at p1 hf6
        have HF6 : Hid (V6.heap[w.heap.size]? = some (.cells #[.string ⟨f.nm.toArray⟩, .bool true, .slice f.a f.bs.length f.cap, .int .i64 (f.syn : Int)] 126)) := hf6
        clear hf6
        cases hlb : Op.bytesLess f.nm o.nm with
        | true =>
          have hne : ¬ o.nm = f.nm := fun e => by rw [e, less_irrefl] at hlb; cases hlb
          rw [hlb] at hlo
          have HLB : Hid (Op.bytesLess f.nm o.nm = true) := hlb
          have HEQ : Hid (¬ o.nm = f.nm) := hne
          have q1 := name_ne hne
          clear hne hlb hth
          obtain ⟨g8, cap8, w8, hr8, ho8, hb8, hk8, hs8, hat8⟩ := appendF_one kindRf layRf HO6.out.1 HO6.out.2.1 (f : Rf) #[.string ⟨f.nm.toArray⟩, .bool true, .slice f.a f.bs.length f.cap, .int .i64 (f.syn : Int)] rfl 126 (by have := HLN.out; (try simp only [List.length_append, List.length_singleton]); omega) (by have := HLN.out; (try simp only [List.length_append, List.length_singleton]); omega) 129
          have hq8 : w8.heap[wo.heap.size]? = some (.cells #[.string ⟨o.nm.toArray⟩, .bool true, .slice o.a o.bs.length o.cap, .int .i64 (o.syn : Int)] 126) := (hk8 _ HO6.out.2.2.2.1 HO6.out.2.2.2.2.1).trans HO6.out.2.2.1
          obtain ⟨t0, t1, t2, t3⟩ := box4 hq8
          have hf8 : w8.heap[w.heap.size]? = some (.cells #[.string ⟨f.nm.toArray⟩, .bool true, .slice f.a f.bs.length f.cap, .int .i64 (f.syn : Int)] 126) := (hb8.block _ (by have := HH.out.2.2.2.2.2; omega)).trans HF6.out
          obtain ⟨u0, u1, u2, u3⟩ := box4 hf8
          obtain ⟨g9, cap9, w9, hr9, ho9, hb9, hk9, hs9, hat9⟩ := appendF_one kindRf layRf ho8 (Nat.le_trans HO6.out.2.1 (Nat.le_of_lt hs8)) (o : Rf) #[.string ⟨o.nm.toArray⟩, .bool true, .slice o.a o.bs.length o.cap, .int .i64 (o.syn : Int)] rfl 126 (by have := HLN.out; (try simp only [List.length_append, List.length_singleton]); omega) (by have := HLN.out; (try simp only [List.length_append, List.length_singleton]); omega) 129
          have HS : Hid (StI W0 w9 f d0 xs (i + 1) (.slice (some ⟨g9, 0, none⟩) ((zs ++ [f]).length + 1) cap9) true (zs ++ [f] ++ [o])) := ⟨ho9, ((HO6.out.2.2.2.2.2.trans hb8).trans hb9), by rw [← hS.out.st, HDR.out, storeL]; simp [HEQ.out, HLB.out], (fun e => by cases e)⟩
          have e1 : (zs ++ [f]).length = zs.length + 1 := by simp
          rw [e1] at hr9 HS
          clear ho8 hb8 hk8 hs8 hat8 ho9 hb9 hk9 hs9 hat9 hq8 hf8 e1
          generalize (⟨f.nm.toArray⟩ : ByteArray) = sf at *
          generalize (⟨o.nm.toArray⟩ : ByteArray) = so at *
          go_upto_region 9 with (at_builtin; refine wpList_append_hr rfl _ _ 129 rfl _ _ rfl rfl hr8 ?_)
          clear hr8
          go_wp2_with (at_builtin; refine wpList_append_hr rfl _ _ 129 rfl _ _ rfl rfl hr9 ?_)
          go_roundw
          case rel => exact ⟨i + 1, by omega, by first | rfl | go_num, true, _, by first | rfl | trivial, HS.out⟩
          case measure => simp [RowKit.intOf]; omega
        | false =>
          rw [hlb] at hlo
          have HLB : Hid (Op.bytesLess f.nm o.nm = false) := hlb
          by_cases he : o.nm = f.nm
          · have HEQ : Hid (o.nm = f.nm) := he
            have q1 : ((⟨o.nm.toArray⟩ : ByteArray).toList == (⟨f.nm.toArray⟩ : ByteArray).toList) = true := by rw [he]; simp
            clear he hlb hth
            obtain ⟨g8, cap8, w8, hr8, ho8, hb8, hk8, hs8, hat8⟩ := appendF_one kindRf layRf HO6.out.1 HO6.out.2.1 (f : Rf) #[.string ⟨f.nm.toArray⟩, .bool true, .slice f.a f.bs.length f.cap, .int .i64 (f.syn : Int)] rfl 126 (by have := HLN.out; (try simp only [List.length_append, List.length_singleton]); omega) (by have := HLN.out; (try simp only [List.length_append, List.length_singleton]); omega) 129
            have HS : Hid (StI W0 w8 f d0 xs (i + 1) (.slice (some ⟨g8, 0, none⟩) (zs.length + 1) cap8) true (zs ++ [f])) := ⟨ho8, (HO6.out.2.2.2.2.2.trans hb8), by rw [← hS.out.st, HDR.out, storeL]; simp [HEQ.out, less_irrefl], (fun e => by cases e)⟩
            clear ho8 hb8 hk8 hs8 hat8
            generalize (⟨f.nm.toArray⟩ : ByteArray) = sf at *
            generalize (⟨o.nm.toArray⟩ : ByteArray) = so at *
            go_wp2_with (at_builtin; refine wpList_append_hr rfl _ _ 129 rfl _ _ rfl rfl hr8 ?_)
            go_roundw
            case rel => exact ⟨i + 1, by omega, by first | rfl | go_num, true, _, by first | rfl | trivial, HS.out⟩
            case measure => simp [RowKit.intOf]; omega
          · have HEQ : Hid (¬ o.nm = f.nm) := he
            have q1 := name_ne he
            clear he hlb hth
            obtain ⟨g8, cap8, w8, hr8, ho8, hb8, hk8, hs8, hat8⟩ := appendF_one kindRf layRf HO6.out.1 HO6.out.2.1 (o : Rf) #[.string ⟨o.nm.toArray⟩, .bool true, .slice o.a o.bs.length o.cap, .int .i64 (o.syn : Int)] rfl 126 (by have := HLN.out; (try simp only [List.length_append, List.length_singleton]); omega) (by have := HLN.out; (try simp only [List.length_append, List.length_singleton]); omega) 129
            have HS : Hid (StI W0 w8 f d0 xs (i + 1) (.slice (some ⟨g8, 0, none⟩) (zs.length + 1) cap8) false (zs ++ [o])) := ⟨ho8, (HO6.out.2.2.2.2.2.trans hb8), by rw [← hS.out.st, HDR.out, storeL]; simp [HEQ.out, HLB.out], hS.out.df⟩
            clear ho8 hb8 hk8 hs8 hat8
            generalize (⟨f.nm.toArray⟩ : ByteArray) = sf at *
            generalize (⟨o.nm.toArray⟩ : ByteArray) = so at *
            go_wp2_with (at_builtin; refine wpList_append_hr rfl _ _ 129 rfl _ _ rfl rfl hr8 ?_)
            go_roundw
            case rel => exact ⟨i + 1, by omega, by first | rfl | go_num, false, _, by first | rfl | trivial, HS.out⟩
            case measure => simp [RowKit.intOf]; omega
    · obtain rfl : i = n := by omega
      have hlt2 : ¬ ((i : Int) < (i : Int)) := by omega
      have hst := hS.out.st
      rw [← HN.out, List.drop_length] at hst
      have HST : Hid (zs ++ storeL f dn [] = storeL f d0 xs) := hst
      have hf6 := hfb
      clear hst hbw
      cases dn with
      | true =>
        obtain ⟨a', c', hv, _, _⟩ := own_shapeR hS.out.own
        subst hv
        obtain ⟨W9, hW9, hh9, hC9⟩ := setR1 hRw.box (.slice a' zs.length c')
        have k1 := Lib.frozen_of_heap hRw.box 1
        have HE : Hid (StoreP w W9 r T K (storeL f d0 xs)) :=
          StI.ends HH.out.1 HH.out.2.1 (fun e => HF.out (by have := HH.out.2.2.2.2.1; rw [e] at this; cases th <;> simp_all)) hS.out.own hS.out.below (by rw [← HST.out, storeL]; simp) hC9 hh9
        have HD0 : Hid ((!th) = d0) := HH.out.2.2.2.2.1
        clear hRw hfb hf6 hh9 hC9
        go_wp2_with fail
        go_end0
        exact ⟨rfl, by rw [HD0.out]; exact HE.out⟩
      | false =>
        have hth : th = true := by
          have h1 := hS.out.df rfl
          have h2 := HH.out.2.2.2.2.1
          rw [h1] at h2
          cases th <;> simp_all
        rw [hth] at hf6
        obtain ⟨p0, p1, p2, p3⟩ := box4 hf6
        have HLN : Hid (zs.length ≤ 1073741825) := by
          have h1 := congrArg List.length hS.out.st
          have h2 := storeL_len (f := f) (xs := xs) (dn := d0)
          have h3 := HH.out.2.2.2.1
          rw [List.length_append] at h1
          show zs.length ≤ _
          split at h2 <;> omega
        obtain ⟨g8, cap8, w8, hr8, ho8, hb8, hk8, hs8, hat8⟩ := appendF_one kindRf layRf hS.out.own hS.out.below.size (f : Rf) #[.string ⟨f.nm.toArray⟩, .bool true, .slice f.a f.bs.length f.cap, .int .i64 (f.syn : Int)] rfl 126 (by have := HLN.out; (try simp only [List.length_append, List.length_singleton]); omega) (by have := HLN.out; (try simp only [List.length_append, List.length_singleton]); omega) 129
        have hR8 : RefAt w8 r T K a c xs := HH.out.1.chg (D := fun _ => False) (Chg.of_below (HH.out.2.1.trans ((hS.out.below.trans hb8).mono HH.out.2.1.size))) (fun _ _ f => f)
        obtain ⟨W9, hW9, hh9, hC9⟩ := setR1 hR8.box (.slice (some ⟨g8, 0, none⟩) (zs.length + 1) cap8)
        have k1 := Lib.frozen_of_heap hR8.box 1
        have k2 := (box5 hR8.box).2.1
        have HE : Hid (StoreP w W9 r T K (storeL f d0 xs)) :=
          StI.ends (zs := zs ++ [f]) HH.out.1 HH.out.2.1 (fun e => HF.out (by have := HH.out.2.2.2.2.1; rw [e] at this; cases th <;> simp_all)) (by rw [List.length_append]; exact ho8) (hS.out.below.trans hb8) (by rw [← HST.out, storeL]; simp) hC9 (by rw [List.length_append]; exact hh9)
        have HD0 : Hid ((!th) = d0) := HH.out.2.2.2.2.1
        clear hRw hfb hf6 hh9 hC9 hR8 ho8 hb8 hk8 hs8 hat8 hth
        go_wp2_with (at_builtin; refine wpList_append_hr rfl _ _ 129 rfl _ _ rfl rfl hr8 ?_)
        go_end0
        exact ⟨rfl, by rw [HD0.out]; exact HE.out⟩
end Go.Proofs.Ytfehgaioioejoaa

/-! The reference's survives, Used, Files, look. -/
namespace Go.Proofs.Ytfehgaioioejoaa
open Go.RowKit Go.Lib
set_option maxRecDepth 100000

set_option maxHeartbeats 2000000 in
theorem rSurvives (w : World) (s : ByteArray) (th : Bool) (xa : Option Addr) (xn xc xs k L : Nat) (hs : xs ≤ xn) (hc : xn ≤ xc) (hx : xc ≤ 9223372036854775807) (hL : xs + min k (xn - xs) = L) :
    Calls Try.prog 104 #[.agg #[.string s, .bool th, .slice xa xn xc, .int .i64 (xs : Int)], .int .i64 (k : Int)] w fun e w' => e = .returned (.agg #[.string s, .bool (decide (0 < L)), .slice xa L xc, .int .i64 (L : Int)]) ∧ Below w.heap.size w w' := by
  obtain ⟨W0, hW0⟩ : ∃ W0, w.alloc (.cells #[.string s, .bool th, .slice xa xn xc, .int .i64 (xs : Int)] 126) = W0 := ⟨_, rfl⟩
  obtain ⟨W1, hW1⟩ : ∃ W1, W0.alloc (.cells #[.string ⟨#[]⟩, .bool false, .slice none 0 0, .int .i64 0] 126) = W1 := ⟨_, rfl⟩
  have hs0 : W0.heap.size = w.heap.size + 1 := by rw [← hW0, World.size_alloc]
  have hb1 : Below w.heap.size w W1 := by rw [← hW1, ← hW0]; exact ((Below.refl _ _).alloc (Nat.le_refl _) _).alloc (by rw [World.size_alloc]; omega) _
  have hq0 : W0.heap[w.heap.size]? = some (.cells #[.string s, .bool th, .slice xa xn xc, .int .i64 (xs : Int)] 126) := by rw [← hW0]; exact (MapKept.heap_alloc w _).1
  have hq : W1.heap[w.heap.size]? = some (.cells #[.string s, .bool th, .slice xa xn xc, .int .i64 (xs : Int)] 126) := by rw [← hW1]; exact ((MapKept.heap_alloc W0 _).2 _ (by omega)).trans hq0
  have hA : W1.heap[W0.heap.size]? = some (.cells #[.string ⟨#[]⟩, .bool false, .slice none 0 0, .int .i64 0] 126) := by rw [← hW1]; exact (MapKept.heap_alloc W0 _).1
  obtain ⟨c0, c1, c2, c3⟩ := box4 hq
  have k1 := Lib.frozen_of_heap hq 1
  have k2 := Lib.frozen_of_heap hq 2
  have k3 := Lib.frozen_of_heap hq 3
  have g0 : IntKind.i64.wrap ((xn : Int) - (xs : Int)) = ((xn - xs : Nat) : Int) := by rw [IntWalk.i64_in _ (by omega)]; omega
  have HM : ∀ ats ty W, (Builtin.min_ ats ty #[.int .i64 (k : Int), .int .i64 ((xn - xs : Nat) : Int)]).run Try.prog W = .ok (.int .i64 ((min k (xn - xs) : Nat) : Int)) W := fun ats ty W => by
    rw [min_run]; congr 2; omega
  have g1 : IntKind.i64.wrap ((xs : Int) + ((min k (xn - xs) : Nat) : Int)) = (L : Int) := by rw [IntWalk.i64_in _ (by omega)]; omega
  have hcut : ∀ W, (Instr.slice 36 (.slice xa xn xc) none (some (.int .i64 (L : Int))) none).run Try.prog W = .ok (.slice xa L xc) W := fun W => cutU W xa xn xc L (by omega)
  have HH : Hid (Below w.heap.size w W1 ∧ W1.heap[w.heap.size]? = some (.cells #[.string s, .bool th, .slice xa xn xc, .int .i64 (xs : Int)] 126) ∧ W1.heap[W0.heap.size]? = some (.cells #[.string ⟨#[]⟩, .bool false, .slice none 0 0, .int .i64 0] 126) ∧ W0.heap.size = w.heap.size + 1) := ⟨hb1, hq, hA, hs0⟩
  obtain ⟨V, hV, hVq, hVC⟩ : ∃ V, ((W1.setCell ⟨w.heap.size, 2, none⟩ (.slice xa L xc)).setCell ⟨w.heap.size, 3, none⟩ (.int .i64 (L : Int))).setCell ⟨w.heap.size, 1, none⟩ (.bool (decide (0 < L))) = V ∧ V.heap[w.heap.size]? = some (.cells #[.string s, .bool (decide (0 < L)), .slice xa L xc, .int .i64 (L : Int)] 126) ∧ Chg (fun g => g = w.heap.size) W1 V := by
    have e0 := heap_setCell_cells hq 2 (.slice xa L xc)
    have e1 := heap_setCell_cells e0 3 (.int .i64 (L : Int))
    have e2 := heap_setCell_cells e1 1 (.bool (decide (0 < L)))
    have hs : ∀ (i : Nat) (W : World) (u : Value), Chg (fun g => g = w.heap.size) W (W.setCell ⟨w.heap.size, i, none⟩ u) := fun i W u => Chg.set (D := fun g => g = w.heap.size) (q := w.heap.size) i W u rfl
    exact ⟨_, rfl, e2, ((hs 2 _ _).trans (hs 3 _ _)).trans (hs 1 _ _)⟩
  obtain ⟨m0, m1, m2, m3⟩ := box4 hVq
  have hAV : V.heap[W0.heap.size]? = some (.cells #[.string ⟨#[]⟩, .bool false, .slice none 0 0, .int .i64 0] 126) := hVC.block hA (by omega)
  obtain ⟨W9, hW9, hh9, hC9⟩ := set4 hAV (.string s) (.bool (decide (0 < L))) (.slice xa L xc) (.int .i64 (L : Int))
  obtain ⟨y0, y1, y2, y3⟩ := box4 hAV
  have j0 := Lib.frozen_of_heap hAV 0
  have j1 := Lib.frozen_of_heap hAV 1
  have j2 := Lib.frozen_of_heap hAV 2
  have j3 := Lib.frozen_of_heap hAV 3
  obtain ⟨r0, r1, r2, r3⟩ := box4 hh9
  have HB : Hid (Below w.heap.size w W9) := (hb1.trans (hVC.below (fun g e => by omega) hb1.size)).trans (hC9.below (fun g e => by omega) (by have := hb1.size; have := hVC.size; omega))
  clear hs hc hx hL hs0 hb1 hq0 hq hA hVq hVC hAV hh9 hC9
  go_enter Try.func104, Try.ntmps104
  go_wp2_with fail
  refine bodyPost_ret (v := .agg #[.string s, .bool (decide (0 < L)), .slice xa L xc, .int .i64 (L : Int)]) (by simp [results, Try.results104, go_sem, r0, r1, r2, r3]) rfl ?_
  exact ⟨rfl, HB.out⟩
def sumR (xs : List Rf) : Nat := (xs.map (fun x => x.bs.length)).sum
theorem sumR_used (xs : List Rf) : used (xs.map Rf.fl) = sumR xs := by
  unfold used sumR
  rw [List.map_map]
  rfl
theorem sumR_snoc {xs : List Rf} {i : Nat} {o : Rf} (h : xs[i]? = some o) : sumR (xs.take (i + 1)) = sumR (xs.take i) + o.bs.length := by
  unfold sumR
  rw [List.take_add_one, h]
  simp
theorem sumR_le (xs : List Rf) (i : Nat) : sumR (xs.take i) ≤ sumR xs := by
  have : sumR xs = sumR (xs.take i) + sumR (xs.drop i) := by
    unfold sumR
    rw [← List.sum_append, ← List.map_append, List.take_append_drop]
  omega
variable {w : World} {r c : Nat} {T : Dk} {K : Int} {a : Option Addr} {xs : List Rf}
set_option maxHeartbeats 2000000 in
theorem rUsed (h : RefAt w r T K a c xs) (hn : xs.length ≤ 1073741824) (hu : sumR xs ≤ 1099511627776) :
    Calls Try.prog 67 #[.pointer (some ⟨r, 0, none⟩)] w fun e w' => e = .returned (.int .i64 (sumR xs : Int)) ∧ w' = w := by
  obtain ⟨c0, c1, c2, c3, c4⟩ := box5 h.box
  have HH : Hid (RefAt w r T K a c xs ∧ sumR xs ≤ 1099511627776) := ⟨h, hu⟩
  have hnc : (xs.length : Int) ≤ 1073741824 := by omega
  clear h c0 c2 c3 c4 hn hu
  obtain ⟨n, hn⟩ : ∃ n, xs.length = n := ⟨_, rfl⟩
  have HN : Hid (xs.length = n) := hn
  rw [hn] at c1 hnc
  clear hn
  go_enter Try.func67, Try.ntmps67
  go_wp2_with fail
  go_loopw [3, 4] (fun vn vi wr => ∃ i : Nat, i ≤ n ∧ vi = .int .i64 (i : Int) ∧ vn = .int .i64 (sumR (xs.take i) : Int) ∧ wr = w) (fun _ vi _ => n - (RowKit.intOf vi).toNat)
  case atStart => exact ⟨0, Nat.zero_le _, rfl, rfl, rfl⟩
  case round =>
    obtain ⟨i, hi, rfl, rfl, hwr⟩ := hrel
    subst hwr
    by_cases hlt : i < n
    · have hlt2 : (i : Int) < (n : Int) := by omega
      have hrow := HH.out.1.row
      rw [HN.out] at hrow
      obtain ⟨g, off, o, hoa, hgl, hoi, hcell⟩ := hrow.at i hlt
      subst hoa
      have o2 := hcell 2 _ rfl
      have gi : IntKind.i64.wrap ((i : Int) + 1) = ((i + 1 : Nat) : Int) := by rw [IntWalk.i64_in _ (by omega)]; omega
      have hsn := sumR_snoc hoi
      have hle := sumR_le xs (i + 1)
      have hub := HH.out.2
      have gs : IntKind.i64.wrap ((sumR (xs.take i) : Int) + (o.bs.length : Int)) = (sumR (xs.take (i + 1)) : Int) := by rw [IntWalk.i64_in _ (by omega)]; omega
      clear hcell hgl hoi hrow hsn hle hub
      generalize sumR (xs.take i) = s1 at *
      generalize hs2 : sumR (xs.take (i + 1)) = s2 at *
      have HS2 : Hid (sumR (xs.take (i + 1)) = s2) := hs2
      clear hs2
      go_wp2_with fail
      go_roundw
      case rel => exact ⟨i + 1, by omega, by first | rfl | go_num, by first | rfl | rw [HS2.out], by first | rfl | trivial⟩
      case measure => simp [RowKit.intOf]; omega
    · obtain rfl : i = n := by omega
      have hlt2 : ¬ ((i : Int) < (i : Int)) := by omega
      have he : xs.take i = xs := by rw [← HN.out, List.take_length]
      rw [he]
      go_wp2_with fail
      go_ret
      exact ⟨rfl, rfl⟩
set_option maxHeartbeats 2000000 in
theorem rLook_err (h : RefAt w r T K a c xs) (nm : List UInt8) (hl : nm.length ≤ 9223372036854775807) (must : Bool) (hr : readyP T nm ≠ 0) :
    Calls Try.prog 93 #[.pointer (some ⟨r, 0, none⟩), .string ⟨nm.toArray⟩, .bool must] w fun e w' => e = .returned (.tuple #[.agg #[.string ⟨#[]⟩, .bool false, .slice none 0 0, .int .i64 0], .int .i64 (readyP T nm)]) ∧ Below w.heap.size w w' := by
  obtain ⟨W0, hW0⟩ : ∃ W0, w.alloc (.cells #[.string ⟨#[]⟩, .bool false, .slice none 0 0, .int .i64 0] 126) = W0 := ⟨_, rfl⟩
  have hb0 : Below w.heap.size w W0 := by rw [← hW0]; exact (Below.refl _ _).alloc (Nat.le_refl _) _
  have hq : W0.heap[w.heap.size]? = some (.cells #[.string ⟨#[]⟩, .bool false, .slice none 0 0, .int .i64 0] 126) := by rw [← hW0]; exact (MapKept.heap_alloc w _).1
  have h := h.below hb0
  obtain ⟨c0, c1, c2, c3, c4⟩ := box5 h.box
  obtain ⟨W9, hW9, hh9, hC9⟩ := set4 hq (.string ⟨#[]⟩) (.bool false) (.slice none 0 0) (.int .i64 0)
  obtain ⟨y0, y1, y2, y3⟩ := box4 hq
  have k0 := Lib.frozen_of_heap hq 0
  have k1 := Lib.frozen_of_heap hq 1
  have k2 := Lib.frozen_of_heap hq 2
  have k3 := Lib.frozen_of_heap hq 3
  obtain ⟨r0, r1, r2, r3⟩ := box4 hh9
  have HB : Hid (Below w.heap.size w W9) := hb0.trans (hC9.below (fun g e => by omega) hb0.size)
  have HN : Hid (∀ W, Calls Try.prog 89 #[.string ⟨nm.toArray⟩] W fun e w' => e = .returned (.bool (nameOk nm)) ∧ w' = W) := rNamed nm hl
  cases hd : T.down with
  | true =>
    have he : readyP T nm = 110 := by unfold readyP; rw [if_pos hd]
    rw [hd] at c2
    rw [he]
    clear h hl hr hd he c0 c1 c3 c4 hh9 hC9 hb0 hq HN
    generalize (⟨nm.toArray⟩ : ByteArray) = s at *
    go_enter Try.func93, Try.ntmps93
    go_wp2_with fail
    refine bodyPost_ret (v := .tuple #[.agg #[.string ⟨#[]⟩, .bool false, .slice none 0 0, .int .i64 0], .int .i64 110]) (by simp [results, Try.results93, go_sem, r0, r1, r2, r3]) rfl ?_
    exact ⟨rfl, HB.out⟩
  | false =>
    have hno : nameOk nm = false := by
      cases hq : nameOk nm with
      | false => rfl
      | true => exact absurd (by unfold readyP; rw [if_neg (by simp [hd]), if_pos hq]) hr
    have he : readyP T nm = 113 := by unfold readyP; rw [if_neg (by simp [hd]), if_neg (by simp [hno])]
    rw [hd] at c2
    rw [he]
    rw [hno] at HN
    clear h hl hr hd he hno c0 c1 c3 c4 hh9 hC9 hb0 hq
    generalize (⟨nm.toArray⟩ : ByteArray) = s at *
    go_enter Try.func93, Try.ntmps93
    go_wp2_with fail
    refine (HN.out _).mono ?_
    rintro e wz ⟨rfl, hz⟩
    rw [hz]
    clear hz wz
    go_wp2_with fail
    refine bodyPost_ret (v := .tuple #[.agg #[.string ⟨#[]⟩, .bool false, .slice none 0 0, .int .i64 0], .int .i64 113]) (by simp [results, Try.results93, go_sem, r0, r1, r2, r3]) rfl ?_
    exact ⟨rfl, HB.out⟩
set_option maxHeartbeats 4000000 in
theorem rLook_ok (h : RefAt w r T K a c xs) (hn : xs.length ≤ 4398046511104) (nm : List UInt8) (hl : nm.length ≤ 9223372036854775807) (must : Bool) (hr : readyP T nm = 0) (s : ByteArray) (th : Bool) (xa : Option Addr) (xn xc : Nat) (y : Int) (hfa : fileA xs nm = .agg #[.string s, .bool th, .slice xa xn xc, .int .i64 y]) (hm : must = false ∨ th = true) :
    Calls Try.prog 93 #[.pointer (some ⟨r, 0, none⟩), .string ⟨nm.toArray⟩, .bool must] w fun e w' => e = .returned (.tuple #[.agg #[.string s, .bool th, .slice xa xn xc, .int .i64 y], .int .i64 0]) ∧ Below w.heap.size w w' := by
  obtain ⟨W0, hW0⟩ : ∃ W0, w.alloc (.cells #[.string ⟨#[]⟩, .bool false, .slice none 0 0, .int .i64 0] 126) = W0 := ⟨_, rfl⟩
  have hb0 : Below w.heap.size w W0 := by rw [← hW0]; exact (Below.refl _ _).alloc (Nat.le_refl _) _
  have hq : W0.heap[w.heap.size]? = some (.cells #[.string ⟨#[]⟩, .bool false, .slice none 0 0, .int .i64 0] 126) := by rw [← hW0]; exact (MapKept.heap_alloc w _).1
  have h := h.below hb0
  obtain ⟨c0, c1, c2, c3, c4⟩ := box5 h.box
  have hd : T.down = false := by
    cases hd : T.down with
    | false => rfl
    | true => unfold readyP at hr; rw [if_pos hd] at hr; cases hr
  have hno : nameOk nm = true := by
    unfold readyP at hr
    rw [if_neg (by simp [hd])] at hr
    cases hq : nameOk nm with
    | true => rfl
    | false => rw [hq] at hr; cases hr
  have HN : Hid (∀ W, Calls Try.prog 89 #[.string ⟨nm.toArray⟩] W fun e w' => e = .returned (.bool true) ∧ w' = W) := fun W => by have := rNamed nm hl W; rwa [hno] at this
  have HFI : Hid (Calls Try.prog 90 #[.pointer (some ⟨r, 0, none⟩), .string ⟨nm.toArray⟩] W0 fun e w' => e = .returned (.agg #[.string s, .bool th, .slice xa xn xc, .int .i64 y]) ∧ Below W0.heap.size W0 w') := by have := rFile h hn nm; rwa [hfa] at this
  have HH : Hid (Below w.heap.size w W0 ∧ W0.heap[w.heap.size]? = some (.cells #[.string ⟨#[]⟩, .bool false, .slice none 0 0, .int .i64 0] 126)) := ⟨hb0, hq⟩
  rw [hd] at c2
  clear h hl hr hd hno c0 c1 c3 c4 hb0 hq hfa hn
  generalize (⟨nm.toArray⟩ : ByteArray) = sn at *
  cases must with
  | false =>
    clear hm
    go_enter Try.func93, Try.ntmps93
    go_wp2_with fail
    refine (HN.out _).mono ?_
    rintro e wz ⟨rfl, hz⟩
    rw [hz]
    clear hz wz
    go_wp2_with fail
    refine (HFI.out).mono ?_
    rintro e w1 ⟨rfl, hb1⟩
    have hq1 : w1.heap[w.heap.size]? = some (.cells #[.string ⟨#[]⟩, .bool false, .slice none 0 0, .int .i64 0] 126) := (hb1.block _ (Array.getElem?_eq_some_iff.1 HH.out.2).1).trans HH.out.2
    obtain ⟨V5, hV5⟩ : ∃ V5, w1.alloc (.cells #[.string ⟨#[]⟩, .bool false, .slice none 0 0, .int .i64 0] 126) = V5 := ⟨_, rfl⟩
    have hV5b : Below w1.heap.size w1 V5 := by rw [← hV5]; exact (Below.refl _ _).alloc (Nat.le_refl _) _
    have hV5h : V5.heap[w1.heap.size]? = some (.cells #[.string ⟨#[]⟩, .bool false, .slice none 0 0, .int .i64 0] 126) := by rw [← hV5]; exact (MapKept.heap_alloc w1 _).1
    obtain ⟨V6, hV6, hh9, hC9⟩ := set4 hV5h (.string s) (.bool th) (.slice xa xn xc) (.int .i64 y)
    obtain ⟨y0, y1, y2, y3⟩ := box4 hV5h
    have k0 := Lib.frozen_of_heap hV5h 0
    have k1 := Lib.frozen_of_heap hV5h 1
    have k2 := Lib.frozen_of_heap hV5h 2
    have k3 := Lib.frozen_of_heap hV5h 3
    obtain ⟨t0, t1, t2, t3⟩ := box4 hh9
    have hwl : w.heap.size < w1.heap.size := (Array.getElem?_eq_some_iff.1 hq1).1
    have hq6 : V6.heap[w.heap.size]? = some (.cells #[.string ⟨#[]⟩, .bool false, .slice none 0 0, .int .i64 0] 126) := hC9.block ((hV5b.block _ hwl).trans hq1) (by omega)
    have hb6 : Below w.heap.size w V6 := ((HH.out.1.trans (hb1.mono HH.out.1.size)).trans (hV5b.mono (by omega))).trans (hC9.below (fun g e => by omega) (by have := hV5b.size; omega))
    clear hh9 hC9 hV5b hV5h hb1 hq1 hwl
    obtain ⟨W9, hW9, hh9, hC9⟩ := set4 hq6 (.string s) (.bool th) (.slice xa xn xc) (.int .i64 y)
    obtain ⟨x0, x1, x2, x3⟩ := box4 hq6
    have j0 := Lib.frozen_of_heap hq6 0
    have j1 := Lib.frozen_of_heap hq6 1
    have j2 := Lib.frozen_of_heap hq6 2
    have j3 := Lib.frozen_of_heap hq6 3
    obtain ⟨r0, r1, r2, r3⟩ := box4 hh9
    have HB : Hid (Below w.heap.size w W9) := hb6.trans (hC9.below (fun g e => by omega) hb6.size)
    clear hq6 hh9 hC9 hb6
    go_wp2_with fail
    refine bodyPost_ret (v := .tuple #[.agg #[.string s, .bool th, .slice xa xn xc, .int .i64 y], .int .i64 0]) (by simp [results, Try.results93, go_sem, r0, r1, r2, r3]) rfl ?_
    exact ⟨rfl, HB.out⟩
  | true =>
    have hth : th = true := by simpa using hm
    subst hth
    clear hm
    go_enter Try.func93, Try.ntmps93
    go_wp2_with fail
    refine (HN.out _).mono ?_
    rintro e wz ⟨rfl, hz⟩
    rw [hz]
    clear hz wz
    go_wp2_with fail
    refine (HFI.out).mono ?_
    rintro e w1 ⟨rfl, hb1⟩
    have hq1 : w1.heap[w.heap.size]? = some (.cells #[.string ⟨#[]⟩, .bool false, .slice none 0 0, .int .i64 0] 126) := (hb1.block _ (Array.getElem?_eq_some_iff.1 HH.out.2).1).trans HH.out.2
    obtain ⟨V5, hV5⟩ : ∃ V5, w1.alloc (.cells #[.string ⟨#[]⟩, .bool false, .slice none 0 0, .int .i64 0] 126) = V5 := ⟨_, rfl⟩
    have hV5b : Below w1.heap.size w1 V5 := by rw [← hV5]; exact (Below.refl _ _).alloc (Nat.le_refl _) _
    have hV5h : V5.heap[w1.heap.size]? = some (.cells #[.string ⟨#[]⟩, .bool false, .slice none 0 0, .int .i64 0] 126) := by rw [← hV5]; exact (MapKept.heap_alloc w1 _).1
    obtain ⟨V6, hV6, hh9, hC9⟩ := set4 hV5h (.string s) (.bool true) (.slice xa xn xc) (.int .i64 y)
    obtain ⟨y0, y1, y2, y3⟩ := box4 hV5h
    have k0 := Lib.frozen_of_heap hV5h 0
    have k1 := Lib.frozen_of_heap hV5h 1
    have k2 := Lib.frozen_of_heap hV5h 2
    have k3 := Lib.frozen_of_heap hV5h 3
    obtain ⟨t0, t1, t2, t3⟩ := box4 hh9
    have hwl : w.heap.size < w1.heap.size := (Array.getElem?_eq_some_iff.1 hq1).1
    have hq6 : V6.heap[w.heap.size]? = some (.cells #[.string ⟨#[]⟩, .bool false, .slice none 0 0, .int .i64 0] 126) := hC9.block ((hV5b.block _ hwl).trans hq1) (by omega)
    have hb6 : Below w.heap.size w V6 := ((HH.out.1.trans (hb1.mono HH.out.1.size)).trans (hV5b.mono (by omega))).trans (hC9.below (fun g e => by omega) (by have := hV5b.size; omega))
    clear hh9 hC9 hV5b hV5h hb1 hq1 hwl
    obtain ⟨W9, hW9, hh9, hC9⟩ := set4 hq6 (.string s) (.bool true) (.slice xa xn xc) (.int .i64 y)
    obtain ⟨x0, x1, x2, x3⟩ := box4 hq6
    have j0 := Lib.frozen_of_heap hq6 0
    have j1 := Lib.frozen_of_heap hq6 1
    have j2 := Lib.frozen_of_heap hq6 2
    have j3 := Lib.frozen_of_heap hq6 3
    obtain ⟨r0, r1, r2, r3⟩ := box4 hh9
    have HB : Hid (Below w.heap.size w W9) := hb6.trans (hC9.below (fun g e => by omega) hb6.size)
    clear hq6 hh9 hC9 hb6
    go_wp2_with fail
    refine bodyPost_ret (v := .tuple #[.agg #[.string s, .bool true, .slice xa xn xc, .int .i64 y], .int .i64 0]) (by simp [results, Try.results93, go_sem, r0, r1, r2, r3]) rfl ?_
    exact ⟨rfl, HB.out⟩
set_option maxHeartbeats 4000000 in
theorem rLook_none (h : RefAt w r T K a c xs) (hn : xs.length ≤ 4398046511104) (nm : List UInt8) (hl : nm.length ≤ 9223372036854775807) (must : Bool) (hr : readyP T nm = 0) (s : ByteArray) (th : Bool) (xa : Option Addr) (xn xc : Nat) (y : Int) (hfa : fileA xs nm = .agg #[.string s, .bool th, .slice xa xn xc, .int .i64 y]) (hm : must = true) (ht : th = false) :
    Calls Try.prog 93 #[.pointer (some ⟨r, 0, none⟩), .string ⟨nm.toArray⟩, .bool must] w fun e w' => e = .returned (.tuple #[.agg #[.string ⟨#[]⟩, .bool false, .slice none 0 0, .int .i64 0], .int .i64 112]) ∧ Below w.heap.size w w' := by
  obtain ⟨W0, hW0⟩ : ∃ W0, w.alloc (.cells #[.string ⟨#[]⟩, .bool false, .slice none 0 0, .int .i64 0] 126) = W0 := ⟨_, rfl⟩
  have hb0 : Below w.heap.size w W0 := by rw [← hW0]; exact (Below.refl _ _).alloc (Nat.le_refl _) _
  have hq : W0.heap[w.heap.size]? = some (.cells #[.string ⟨#[]⟩, .bool false, .slice none 0 0, .int .i64 0] 126) := by rw [← hW0]; exact (MapKept.heap_alloc w _).1
  have h := h.below hb0
  obtain ⟨c0, c1, c2, c3, c4⟩ := box5 h.box
  have hd : T.down = false := by
    cases hd : T.down with
    | false => rfl
    | true => unfold readyP at hr; rw [if_pos hd] at hr; cases hr
  have hno : nameOk nm = true := by
    unfold readyP at hr
    rw [if_neg (by simp [hd])] at hr
    cases hq : nameOk nm with
    | true => rfl
    | false => rw [hq] at hr; cases hr
  have HN : Hid (∀ W, Calls Try.prog 89 #[.string ⟨nm.toArray⟩] W fun e w' => e = .returned (.bool true) ∧ w' = W) := fun W => by have := rNamed nm hl W; rwa [hno] at this
  have HFI : Hid (Calls Try.prog 90 #[.pointer (some ⟨r, 0, none⟩), .string ⟨nm.toArray⟩] W0 fun e w' => e = .returned (.agg #[.string s, .bool th, .slice xa xn xc, .int .i64 y]) ∧ Below W0.heap.size W0 w') := by have := rFile h hn nm; rwa [hfa] at this
  have HH : Hid (Below w.heap.size w W0 ∧ W0.heap[w.heap.size]? = some (.cells #[.string ⟨#[]⟩, .bool false, .slice none 0 0, .int .i64 0] 126)) := ⟨hb0, hq⟩
  rw [hd] at c2
  clear h hl hr hd hno c0 c1 c3 c4 hb0 hq hfa hn
  generalize (⟨nm.toArray⟩ : ByteArray) = sn at *
  subst hm
  subst ht
  go_enter Try.func93, Try.ntmps93
  go_wp2_with fail
  refine (HN.out _).mono ?_
  rintro e wz ⟨rfl, hz⟩
  rw [hz]
  clear hz wz
  go_wp2_with fail
  refine (HFI.out).mono ?_
  rintro e w1 ⟨rfl, hb1⟩
  have hq1 : w1.heap[w.heap.size]? = some (.cells #[.string ⟨#[]⟩, .bool false, .slice none 0 0, .int .i64 0] 126) := (hb1.block _ (Array.getElem?_eq_some_iff.1 HH.out.2).1).trans HH.out.2
  obtain ⟨V5, hV5⟩ : ∃ V5, w1.alloc (.cells #[.string ⟨#[]⟩, .bool false, .slice none 0 0, .int .i64 0] 126) = V5 := ⟨_, rfl⟩
  have hV5b : Below w1.heap.size w1 V5 := by rw [← hV5]; exact (Below.refl _ _).alloc (Nat.le_refl _) _
  have hV5h : V5.heap[w1.heap.size]? = some (.cells #[.string ⟨#[]⟩, .bool false, .slice none 0 0, .int .i64 0] 126) := by rw [← hV5]; exact (MapKept.heap_alloc w1 _).1
  obtain ⟨V6, hV6, hh9, hC9⟩ := set4 hV5h (.string s) (.bool false) (.slice xa xn xc) (.int .i64 y)
  obtain ⟨y0, y1, y2, y3⟩ := box4 hV5h
  have k0 := Lib.frozen_of_heap hV5h 0
  have k1 := Lib.frozen_of_heap hV5h 1
  have k2 := Lib.frozen_of_heap hV5h 2
  have k3 := Lib.frozen_of_heap hV5h 3
  obtain ⟨t0, t1, t2, t3⟩ := box4 hh9
  have hwl : w.heap.size < w1.heap.size := (Array.getElem?_eq_some_iff.1 hq1).1
  have hq6 : V6.heap[w.heap.size]? = some (.cells #[.string ⟨#[]⟩, .bool false, .slice none 0 0, .int .i64 0] 126) := hC9.block ((hV5b.block _ hwl).trans hq1) (by omega)
  have hb6 : Below w.heap.size w V6 := ((HH.out.1.trans (hb1.mono HH.out.1.size)).trans (hV5b.mono (by omega))).trans (hC9.below (fun g e => by omega) (by have := hV5b.size; omega))
  clear hh9 hC9 hV5b hV5h hb1 hq1 hwl
  obtain ⟨W9, hW9, hh9, hC9⟩ := set4 hq6 (.string ⟨#[]⟩) (.bool false) (.slice none 0 0) (.int .i64 0)
  obtain ⟨x0, x1, x2, x3⟩ := box4 hq6
  have j0 := Lib.frozen_of_heap hq6 0
  have j1 := Lib.frozen_of_heap hq6 1
  have j2 := Lib.frozen_of_heap hq6 2
  have j3 := Lib.frozen_of_heap hq6 3
  obtain ⟨r0, r1, r2, r3⟩ := box4 hh9
  have HB : Hid (Below w.heap.size w W9) := hb6.trans (hC9.below (fun g e => by omega) hb6.size)
  clear hq6 hh9 hC9 hb6
  go_wp2_with fail
  refine bodyPost_ret (v := .tuple #[.agg #[.string ⟨#[]⟩, .bool false, .slice none 0 0, .int .i64 0], .int .i64 112]) (by simp [results, Try.results93, go_sem, r0, r1, r2, r3]) rfl ?_
  exact ⟨rfl, HB.out⟩
end Go.Proofs.Ytfehgaioioejoaa
