import Derived.Test.YtmdnmhdimfglaaaGreatDoorGr6
import Derived.Test.YtmdnmhdimfglaaaGreatDoorGaJ
import Derived.Test.YtmdnmhdimfglaaaGreatDoorGaE
namespace Go.Proofs.YtmdnmhdimfglaaaGreatDoor
open Go.RowKit Go.Lib
set_option maxRecDepth 100000
theorem set_p {W : World} {b n : Nat} {w0 : World} {T : TypeId} {u0 u1 u2 u3 u4 u5 u6 u7 u8 : Value} (h : W.heap[b]? = some (.cells #[u0, u1, u2, u3, u4, u5, u6, u7, u8] T)) (hB : Below n w0 W) (hn : n ≤ b) (v : Value) :
    ∃ W', W.setCell ⟨b, 3, none⟩ v = W' ∧ W'.heap[b]? = some (.cells #[u0, u1, u2, v, u4, u5, u6, u7, u8] T) ∧ Below n w0 W' ∧ But b W W' :=
  ⟨_, rfl, (heap_setCell_same _ b 3 _ _ v h).trans (by simp), hB.setCell (p := ⟨b, 3, none⟩) hn v, But.set _ _ _ _⟩
theorem set_l {W : World} {b n : Nat} {w0 : World} {T : TypeId} {u0 u1 u2 u3 u4 u5 u6 u7 u8 : Value} (h : W.heap[b]? = some (.cells #[u0, u1, u2, u3, u4, u5, u6, u7, u8] T)) (hB : Below n w0 W) (hn : n ≤ b) (v : Value) :
    ∃ W', W.setCell ⟨b, 5, none⟩ v = W' ∧ W'.heap[b]? = some (.cells #[u0, u1, u2, u3, u4, v, u6, u7, u8] T) ∧ Below n w0 W' ∧ But b W W' :=
  ⟨_, rfl, (heap_setCell_same _ b 5 _ _ v h).trans (by simp), hB.setCell (p := ⟨b, 5, none⟩) hn v, But.set _ _ _ _⟩
def isB (c n c2 n2 : Int) : Bool := (c == c2 && n == n2) && !(c == 0 && n == 0)
set_option maxHeartbeats 2000000 in
theorem is_anyX (c n c2 n2 : Int) (w : World) : Calls Tryz.prog 71 #[.agg #[.int .i64 c, .int .i64 n], .agg #[.int .i64 c2, .int .i64 n2]] w fun e w' => e = .returned (.bool (isB c n c2 n2)) ∧ Below w.heap.size w w' := by
  have hw2 := ((Below.refl w.heap.size w).alloc (Nat.le_refl _) (Obj.cells #[.int .i64 c, .int .i64 n] 28)).alloc (by simp) (Obj.cells #[.int .i64 c2, .int .i64 n2] 28)
  unfold isB
  by_cases h1 : c = c2
  · subst h1
    by_cases h2 : n = n2
    · subst h2
      by_cases h3 : c = 0
      · subst h3
        by_cases h4 : n = 0
        · subst h4
          go_enter Tryz.func71, Tryz.ntmps71
          go_wp2_with fail
          go_ret
          exact ⟨rfl, hw2⟩
        · have t4 : (n == 0) = false := beq_eq_false_iff_ne.2 h4
          have t5 : (n != 0) = true := by simp [bne, t4]
          have t6 : decide (n = 0) = false := decide_eq_false h4
          rw [t4]
          go_enter Tryz.func71, Tryz.ntmps71
          go_wp2_with fail
          go_ret
          exact ⟨by simp, hw2⟩
      · have t4 : (c == 0) = false := beq_eq_false_iff_ne.2 h3
        have t5 : (c != 0) = true := by simp [bne, t4]
        have t6 : decide (c = 0) = false := decide_eq_false h3
        rw [t4]
        go_enter Tryz.func71, Tryz.ntmps71
        go_wp2_with fail
        go_ret
        exact ⟨by simp, hw2⟩
    · have t4 : (n == n2) = false := beq_eq_false_iff_ne.2 h2
      have t6 : decide (n = n2) = false := decide_eq_false h2
      rw [t4]
      go_enter Tryz.func71, Tryz.ntmps71
      go_wp2_with fail
      go_ret
      exact ⟨by simp, hw2⟩
  · have t4 : (c == c2) = false := beq_eq_false_iff_ne.2 h1
    have t6 : decide (c = c2) = false := decide_eq_false h1
    rw [t4]
    go_enter Tryz.func71, Tryz.ntmps71
    go_wp2_with fail
    go_ret
    exact ⟨by simp, hw2⟩
def movP (o : OpV) (p : Int) : OpV × Int := if 1048576 < p + widthP o then (op0, 24) else ({ o with p := p }, 0)
set_option maxHeartbeats 8000000 in
theorem moved_any {o : OpV} {p2 : Int} {a : Option Addr} {m cap : Nat} {w : World} (hR : Sp.Rng w a m cap o.l) (hm : m ≤ 1000000000) (hs : o.s.size ≤ 2097152) (hp : 0 ≤ p2 ∧ p2 ≤ 4194304) (hwd : 0 ≤ widthP o ∧ widthP o ≤ 256) :
    Calls Tryz.prog 72 #[opVal o (.slice a m cap), .int .i64 p2] w fun e w' => Ans w (movP o p2) e w' := by
  have HW : Hid (∀ (W : World), Calls Tryz.prog 62 #[opVal o (.slice a m cap)] W fun e w' => e = .returned (.int .i64 (widthP o)) ∧ Below W.heap.size W w') := fun W => gWidth_any hs W
  have HC : Hid (∀ W, Below w.heap.size w W → Calls Tryz.prog 22 #[opVal o (.slice a m cap)] W fun e w' => ∃ a' cap', e = .returned (opVal o (.slice a' m cap')) ∧ OwnF rangeV 2 91 w' W.heap.size (.slice a' m cap') o.l ∧ Below W.heap.size W w') := fun W hb => copy_any (hR.below hb) hm
  obtain ⟨q, hq⟩ : ∃ q, movP o p2 = q := ⟨_, rfl⟩
  rw [hq]
  unfold movP at hq
  generalize widthP o = wd at *
  clear hR hm hs
  obtain ⟨c, n, k, p, s, l, tc, tn, on⟩ := o
  unfold Ans
  simp only [opVal] at *
  obtain ⟨p0, p1⟩ := hp
  obtain ⟨w0, w1⟩ := hwd
  have e1 : IntKind.i64.wrap (p2 + wd) = p2 + wd := IntWalk.i64_in _ (by omega)
  obtain ⟨W0, hW0⟩ : ∃ W0, (w.alloc (Obj.cells #[.int .i64 c, .int .i64 n, .int .i64 k, .int .i64 p, .string s, .slice a m cap, .int .i64 tc, .int .i64 tn, .bool on] 34)).alloc (Obj.cells #[.int .i64 0, .int .i64 0, .int .i64 0, .int .i64 0, .string ⟨#[]⟩, .slice none 0 0, .int .i64 0, .int .i64 0, .bool false] 34) = W0 := ⟨_, rfl⟩
  have hX : W0.heap[w.heap.size]? = some (Obj.cells #[.int .i64 c, .int .i64 n, .int .i64 k, .int .i64 p, .string s, .slice a m cap, .int .i64 tc, .int .i64 tn, .bool on] 34) := by rw [← hW0]; exact (Below.heap_alloc _ _ _ (by simp)).trans (heap_alloc_new _ _)
  have hZ : W0.heap[w.heap.size + 1]? = some (Obj.cells #[.int .i64 0, .int .i64 0, .int .i64 0, .int .i64 0, .string ⟨#[]⟩, .slice none 0 0, .int .i64 0, .int .i64 0, .bool false] 34) := by rw [← hW0]; exact alloc_last _ _ _ (by simp)
  have hB0 : Below w.heap.size w W0 := by rw [← hW0]; exact ((Below.refl w.heap.size w).alloc (Nat.le_refl _) _).alloc (by simp) _
  have alt : w.heap.size + 1 < W0.heap.size := (Array.getElem?_eq_some_iff.1 hZ).1
  obtain ⟨ak0, ak1, ak2, ak3, ak4, ak5, ak6, ak7, ak8⟩ := box9 hX
  obtain ⟨az0, az1, az2, az3, az4, az5, az6, az7, az8⟩ := wr9 hX
  obtain ⟨zk0, zk1, zk2, zk3, zk4, zk5, zk6, zk7, zk8⟩ := box9 hZ
  obtain ⟨zz0, zz1, zz2, zz3, zz4, zz5, zz6, zz7, zz8⟩ := wr9 hZ
  go_enter Tryz.func72, Tryz.ntmps72
  go_wp2_with fail
  refine (HW.out _).mono ?_
  rintro e v1 ⟨rfl, hb1⟩
  have hX1 := (hb1.block _ (by omega)).trans hX
  have hZ1 := (hb1.block _ (by omega)).trans hZ
  have hB1 := hB0.trans (hb1.mono hB0.size)
  have alt1 : w.heap.size + 1 < v1.heap.size := (Array.getElem?_eq_some_iff.1 hZ1).1
  clear HW hb1 hX hZ hB0 alt hW0 ak0 ak1 ak2 ak3 ak4 ak5 ak6 ak7 ak8 az0 az1 az2 az3 az4 az5 az6 az7 az8 zk0 zk1 zk2 zk3 zk4 zk5 zk6 zk7 zk8 zz0 zz1 zz2 zz3 zz4 zz5 zz6 zz7 zz8
  obtain ⟨ak0, ak1, ak2, ak3, ak4, ak5, ak6, ak7, ak8⟩ := box9 hX1
  obtain ⟨az0, az1, az2, az3, az4, az5, az6, az7, az8⟩ := wr9 hX1
  obtain ⟨zk0, zk1, zk2, zk3, zk4, zk5, zk6, zk7, zk8⟩ := box9 hZ1
  obtain ⟨zz0, zz1, zz2, zz3, zz4, zz5, zz6, zz7, zz8⟩ := wr9 hZ1
  by_cases hg : 1048576 < p2 + wd
  · rw [if_pos hg] at hq
    subst hq
    clear HC
    obtain ⟨W9, e9, hx9, hB9, hK9⟩ := store9 hZ1 hB1 (by omega) (.int .i64 0) (.int .i64 0) (.int .i64 0) (.int .i64 0) (.string ⟨#[]⟩) (.slice none 0 0) (.int .i64 0) (.int .i64 0) (.bool false)
    obtain ⟨r0, r1, r2, r3, r4, r5, r6, r7, r8⟩ := box9 hx9
    go_wp2_with fail
    try rw [e9]
    refine bodyPost_ret (v := .tuple #[.agg #[.int .i64 0, .int .i64 0, .int .i64 0, .int .i64 0, .string ⟨#[]⟩, .slice none 0 0, .int .i64 0, .int .i64 0, .bool false], .int .i64 24]) (by simp [results, Tryz.results72, go_sem, r0, r1, r2, r3, r4, r5, r6, r7, r8]) rfl ⟨none, 0, 0, rfl, ownF_nil _ _, hB9⟩
  · rw [if_neg hg] at hq
    subst hq
    have t4 : decide (1048576 < p2 + wd) = false := decide_eq_false hg
    go_wp2_with fail
    refine (HC.out _ hB1).mono ?_
    rintro e v2 ⟨ca, cc, rfl, ho2, hb2⟩
    have hX2 := (hb2.block _ (by omega)).trans hX1
    have hZ2 := (hb2.block _ (by omega)).trans hZ1
    have hB2 := hB1.trans (hb2.mono hB1.size)
    have HO2 : Hid (OwnF rangeV 2 91 v2 v1.heap.size (.slice ca m cc) l) := ho2
    clear HC hb2 hX1 hZ1 hB1 ho2 ak0 ak1 ak2 ak3 ak4 ak5 ak6 ak7 ak8 az0 az1 az2 az3 az4 az5 az6 az7 az8 zk0 zk1 zk2 zk3 zk4 zk5 zk6 zk7 zk8 zz0 zz1 zz2 zz3 zz4 zz5 zz6 zz7 zz8
    obtain ⟨ak0, ak1, ak2, ak3, ak4, ak5, ak6, ak7, ak8⟩ := box9 hX2
    obtain ⟨az0, az1, az2, az3, az4, az5, az6, az7, az8⟩ := wr9 hX2
    obtain ⟨W5, e5, hX5, hB5, hK5⟩ := store9 hX2 hB2 (Nat.le_refl _) (.int .i64 c) (.int .i64 n) (.int .i64 k) (.int .i64 p) (.string s) (.slice ca m cc) (.int .i64 tc) (.int .i64 tn) (.bool on)
    obtain ⟨bk0, bk1, bk2, bk3, bk4, bk5, bk6, bk7, bk8⟩ := box9 hX5
    obtain ⟨bz0, bz1, bz2, bz3, bz4, bz5, bz6, bz7, bz8⟩ := wr9 hX5
    obtain ⟨W6, e6, hX6, hB6, hK6⟩ := set_p hX5 hB5 (Nat.le_refl _) (.int .i64 p2)
    obtain ⟨ck0, ck1, ck2, ck3, ck4, ck5, ck6, ck7, ck8⟩ := box9 hX6
    have hZ6 := (hK5.trans hK6).block hZ2 (by omega)
    obtain ⟨zk0, zk1, zk2, zk3, zk4, zk5, zk6, zk7, zk8⟩ := box9 hZ6
    obtain ⟨zz0, zz1, zz2, zz3, zz4, zz5, zz6, zz7, zz8⟩ := wr9 hZ6
    obtain ⟨W9, e9, hx9, hB9, hK9⟩ := store9 hZ6 hB6 (by omega) (.int .i64 c) (.int .i64 n) (.int .i64 k) (.int .i64 p2) (.string s) (.slice ca m cc) (.int .i64 tc) (.int .i64 tn) (.bool on)
    obtain ⟨r0, r1, r2, r3, r4, r5, r6, r7, r8⟩ := box9 hx9
    have HO9 : Hid (OwnF rangeV 2 91 W9 w.heap.size (.slice ca m cc) l) := (hK9.own ((hK5.trans hK6).own HO2.out (by omega)) (by omega)).mono (by omega)
    clear HO2
    go_wp2_with fail
    try rw [e9]
    refine bodyPost_ret (v := .tuple #[.agg #[.int .i64 c, .int .i64 n, .int .i64 k, .int .i64 p2, .string s, .slice ca m cc, .int .i64 tc, .int .i64 tn, .bool on], .int .i64 0]) (by simp [results, Tryz.results72, go_sem, r0, r1, r2, r3, r4, r5, r6, r7, r8]) rfl ⟨ca, m, cc, rfl, HO9.out, hB9⟩
def covP (o : OpV) (L : List (Int × Int)) : OpV × Int := if overEnd L = true then (op0, 24) else if 32768 < L.length then (op0, 21) else ({ o with l := L }, 0)
theorem getD_last {L : List (Int × Int)} (h : 0 < L.length) : L.getLast? = some (L.getD (L.length - 1) (0, 0)) := by
  rw [List.getLast?_eq_getElem?, List.getD_eq_getElem?_getD, List.getElem?_eq_getElem (by omega)]
  rfl
theorem own_same {α : Type} {f : α → List Value} {k : Nat} {T : TypeId} {w w' : World} {B : Nat} {v : Value} {l : List α} (h : OwnF f k T w B v l) (hs : ∀ g, v.ownBlock = some g → w'.heap[g]? = w.heap[g]?) : OwnF f k T w' B v l := by
  refine ⟨h.1, ?_⟩
  rcases h.2 with h0 | ⟨g, cap, cur, e, h1, hh, rest⟩
  · exact .inl h0
  · exact .inr ⟨g, cap, cur, e, h1, (hs g (by rw [e]; rfl)).trans hh, rest⟩
set_option maxHeartbeats 8000000 in
theorem covering_any {o : OpV} {v : Value} {L : List (Int × Int)} {b : Option Addr} {m2 cap2 : Nat} {w : World} {B : Nat} (hv : ∃ a m cap, v = .slice a m cap) (ho : OwnF rangeV 2 91 w B (.slice b m2 cap2) L) (hm2 : m2 ≤ 1000000000) :
    Calls Tryz.prog 74 #[opVal o v, .slice b m2 cap2] w fun e w' => ∃ va vm vc, e = .returned (.tuple #[opVal (covP o L).1 (.slice va vm vc), .int .i64 (covP o L).2]) ∧ OwnF rangeV 2 91 w' B (.slice va vm vc) (covP o L).1.l ∧ Below w.heap.size w w' := by
  obtain ⟨a, m, cap, rfl⟩ := hv
  have hRw := ho.rw_ layG
  have hRl := hRw.len
  obtain ⟨q, hq⟩ : ∃ q, covP o L = q := ⟨_, rfl⟩
  rw [hq]
  unfold covP at hq
  obtain ⟨c, n, k, p, s, l, tc, tn, on⟩ := o
  simp only [opVal] at *
  obtain ⟨W0, hW0⟩ : ∃ W0, (w.alloc (Obj.cells #[.int .i64 c, .int .i64 n, .int .i64 k, .int .i64 p, .string s, .slice a m cap, .int .i64 tc, .int .i64 tn, .bool on] 34)).alloc (Obj.cells #[.int .i64 0, .int .i64 0, .int .i64 0, .int .i64 0, .string ⟨#[]⟩, .slice none 0 0, .int .i64 0, .int .i64 0, .bool false] 34) = W0 := ⟨_, rfl⟩
  have hX : W0.heap[w.heap.size]? = some (Obj.cells #[.int .i64 c, .int .i64 n, .int .i64 k, .int .i64 p, .string s, .slice a m cap, .int .i64 tc, .int .i64 tn, .bool on] 34) := by rw [← hW0]; exact (Below.heap_alloc _ _ _ (by simp)).trans (heap_alloc_new _ _)
  have hZ : W0.heap[w.heap.size + 1]? = some (Obj.cells #[.int .i64 0, .int .i64 0, .int .i64 0, .int .i64 0, .string ⟨#[]⟩, .slice none 0 0, .int .i64 0, .int .i64 0, .bool false] 34) := by rw [← hW0]; exact alloc_last _ _ _ (by simp)
  have hB0 : Below w.heap.size w W0 := by rw [← hW0]; exact ((Below.refl w.heap.size w).alloc (Nat.le_refl _) _).alloc (by simp) _
  have alt : w.heap.size + 1 < W0.heap.size := (Array.getElem?_eq_some_iff.1 hZ).1
  obtain ⟨ak0, ak1, ak2, ak3, ak4, ak5, ak6, ak7, ak8⟩ := box9 hX
  obtain ⟨az0, az1, az2, az3, az4, az5, az6, az7, az8⟩ := wr9 hX
  obtain ⟨zk0, zk1, zk2, zk3, zk4, zk5, zk6, zk7, zk8⟩ := box9 hZ
  obtain ⟨zz0, zz1, zz2, zz3, zz4, zz5, zz6, zz7, zz8⟩ := wr9 hZ
  have hO0 := ho.below hB0
  have HOLT : Hid (∀ gg, (Value.slice b m2 cap2).ownBlock = some gg → gg < w.heap.size) := fun gg hgg => ho.lt hgg
  have E24 : Hid (overEnd L = true → q = (op0, 24)) := fun h => by rw [← hq, if_pos h]
  have E21 : Hid (overEnd L = false → 32768 < L.length → q = (op0, 21)) := fun h h2 => by rw [← hq, if_neg (by rw [h]; decide), if_pos h2]
  have E0 : Hid (overEnd L = false → ¬ 32768 < L.length → q = (⟨c, n, k, p, s, L, tc, tn, on⟩, 0)) := fun h h2 => by rw [← hq, if_neg (by rw [h]; decide), if_neg h2]
  have HO : Hid (OwnF rangeV 2 91 W0 B (.slice b m2 cap2) L) := hO0
  have hn1 : w.heap.size ≤ w.heap.size + 1 := by omega
  clear hq hO0 ho
  have key : ∀ ov : Bool, overEnd L = ov → (0 < m2 → ∃ g off, b = some ⟨g, off, none⟩ ∧ g < w.heap.size ∧ ∃ y, W0.cell? ⟨g, off + (m2 - 1) * 2 + 1, none⟩ = some (.int .i64 y) ∧ decide (1048576 < y) = ov) ∧ (m2 = 0 → ov = false) := fun ov hov => by
    refine ⟨fun h0 => ?_, fun h0 => ?_⟩
    · obtain ⟨g, off, x, hb, hg, hx, hc⟩ := hRw.at (m2 - 1) (by omega)
      refine ⟨g, off, hb, hg, x.2, (hB0.cell (p := ⟨g, off + (m2 - 1) * 2 + 1, none⟩) hg).trans (hc 1 _ rfl), ?_⟩
      unfold overEnd at hov
      rw [getD_last (by omega), List.getD_eq_getElem?_getD, hRl, hx] at hov
      exact hov
    · have : L = [] := List.length_eq_zero_iff.1 (by omega)
      rw [← hov, this]
      rfl
  have KEY : Hid (∀ ov : Bool, overEnd L = ov → (0 < m2 → ∃ g off, b = some ⟨g, off, none⟩ ∧ g < w.heap.size ∧ ∃ y, W0.cell? ⟨g, off + (m2 - 1) * 2 + 1, none⟩ = some (.int .i64 y) ∧ decide (1048576 < y) = ov) ∧ (m2 = 0 → ov = false)) := key
  clear key hRw
  have HLN : Hid (L.length = m2) := hRl
  clear hRl
  cases hov : overEnd L with
  | true =>
    have hpos : 0 < m2 := Nat.pos_of_ne_zero (fun h0 => by have := (KEY.out true hov).2 h0; cases this)
    obtain ⟨g, off, rfl, hg, y, hy, hd⟩ := (KEY.out true hov).1 hpos
    have hqq := E24.out hov
    subst hqq
    have hd2 : 1048576 < y := of_decide_eq_true hd
    have b1 : (0 : Int) < (m2 : Int) := by omega
    have b2 : IntKind.i64.wrap ((m2 : Int) - 1) = ((m2 - 1 : Nat) : Int) := (IntWalk.i64_in _ (by omega)).trans (by omega)
    clear hov KEY E24 E21 E0 HO HLN
    obtain ⟨W9, e9, hx9, hB9, hK9⟩ := store9 hZ hB0 hn1 (.int .i64 0) (.int .i64 0) (.int .i64 0) (.int .i64 0) (.string ⟨#[]⟩) (.slice none 0 0) (.int .i64 0) (.int .i64 0) (.bool false)
    obtain ⟨r0, r1, r2, r3, r4, r5, r6, r7, r8⟩ := box9 hx9
    obtain ⟨mm, hmm⟩ : ∃ mm, m2 - 1 = mm := ⟨_, rfl⟩
    rw [hmm] at hy b2
    have hmm2 : (mm : Int) < (m2 : Int) := by omega
    have hmm3 : mm < m2 := by omega
    clear hmm hd
    go_enter Tryz.func74, Tryz.ntmps74
    go_wp2_with fail
    try rw [e9]
    refine bodyPost_ret (v := .tuple #[.agg #[.int .i64 0, .int .i64 0, .int .i64 0, .int .i64 0, .string ⟨#[]⟩, .slice none 0 0, .int .i64 0, .int .i64 0, .bool false], .int .i64 24]) (by simp [results, Tryz.results74, go_sem, r0, r1, r2, r3, r4, r5, r6, r7, r8]) rfl ⟨none, 0, 0, rfl, ownF_nil _ _, hB9⟩
  | false =>
    by_cases hbig : 32768 < L.length
    · have hqq := E21.out hov hbig
      subst hqq
      rw [HLN.out] at hbig
      obtain ⟨g, off, rfl, hg, y, hy, hd⟩ := (KEY.out false hov).1 (by omega)
      have b1 : (0 : Int) < (m2 : Int) := by omega
      have b3 : (32768 : Int) < (m2 : Int) := by omega
      have b2 : IntKind.i64.wrap ((m2 : Int) - 1) = ((m2 - 1 : Nat) : Int) := (IntWalk.i64_in _ (by omega)).trans (by omega)
      clear hov KEY E24 E21 E0 HO HLN
      obtain ⟨W9, e9, hx9, hB9, hK9⟩ := store9 hZ hB0 hn1 (.int .i64 0) (.int .i64 0) (.int .i64 0) (.int .i64 0) (.string ⟨#[]⟩) (.slice none 0 0) (.int .i64 0) (.int .i64 0) (.bool false)
      obtain ⟨r0, r1, r2, r3, r4, r5, r6, r7, r8⟩ := box9 hx9
      obtain ⟨mm, hmm⟩ : ∃ mm, m2 - 1 = mm := ⟨_, rfl⟩
      rw [hmm] at hy b2
      have hmm2 : (mm : Int) < (m2 : Int) := by omega
      have hmm3 : mm < m2 := by omega
      clear hmm
      go_enter Tryz.func74, Tryz.ntmps74
      go_wp2_with fail
      try rw [e9]
      refine bodyPost_ret (v := .tuple #[.agg #[.int .i64 0, .int .i64 0, .int .i64 0, .int .i64 0, .string ⟨#[]⟩, .slice none 0 0, .int .i64 0, .int .i64 0, .bool false], .int .i64 21]) (by simp [results, Tryz.results74, go_sem, r0, r1, r2, r3, r4, r5, r6, r7, r8]) rfl ⟨none, 0, 0, rfl, ownF_nil _ _, hB9⟩
    · have hqq := E0.out hov hbig
      subst hqq
      rw [HLN.out] at hbig
      have b3 : decide ((32768 : Int) < (m2 : Int)) = false := decide_eq_false (by omega)
      have b4 : decide (32768 < m2) = false := decide_eq_false (by omega)
      obtain ⟨W6, e6, hX6, hB6, hK6⟩ := set_l hX hB0 (Nat.le_refl _) (.slice b m2 cap2)
      obtain ⟨ck0, ck1, ck2, ck3, ck4, ck5, ck6, ck7, ck8⟩ := box9 hX6
      have hZ6 := hK6.block hZ (by omega)
      obtain ⟨zk0, zk1, zk2, zk3, zk4, zk5, zk6, zk7, zk8⟩ := box9 hZ6
      obtain ⟨zz0, zz1, zz2, zz3, zz4, zz5, zz6, zz7, zz8⟩ := wr9 hZ6
      obtain ⟨W9, e9, hx9, hB9, hK9⟩ := store9 hZ6 hB6 hn1 (.int .i64 c) (.int .i64 n) (.int .i64 k) (.int .i64 p) (.string s) (.slice b m2 cap2) (.int .i64 tc) (.int .i64 tn) (.bool on)
      obtain ⟨r0, r1, r2, r3, r4, r5, r6, r7, r8⟩ := box9 hx9
      have HO9 : Hid (OwnF rangeV 2 91 W9 B (.slice b m2 cap2) L) := own_same HO.out (fun gg hgg => by have := HOLT.out gg hgg; exact (hK9.2 gg (by omega)).trans (hK6.2 gg (by omega)))
      by_cases h0 : m2 = 0
      · subst h0
        clear hov KEY E24 E21 E0 HO HLN
        go_enter Tryz.func74, Tryz.ntmps74
        go_wp2_with fail
        try rw [e9]
        refine bodyPost_ret (v := .tuple #[.agg #[.int .i64 c, .int .i64 n, .int .i64 k, .int .i64 p, .string s, .slice b 0 cap2, .int .i64 tc, .int .i64 tn, .bool on], .int .i64 0]) (by simp [results, Tryz.results74, go_sem, r0, r1, r2, r3, r4, r5, r6, r7, r8]) rfl ⟨b, 0, cap2, rfl, HO9.out, hB9⟩
      · obtain ⟨g, off, rfl, hg, y, hy, hd⟩ := (KEY.out false hov).1 (by omega)
        have b1 : (0 : Int) < (m2 : Int) := by omega
        have b2 : IntKind.i64.wrap ((m2 : Int) - 1) = ((m2 - 1 : Nat) : Int) := (IntWalk.i64_in _ (by omega)).trans (by omega)
        obtain ⟨mm, hmm⟩ : ∃ mm, m2 - 1 = mm := ⟨_, rfl⟩
        rw [hmm] at hy b2
        have hmm2 : (mm : Int) < (m2 : Int) := by omega
        have hmm3 : mm < m2 := by omega
        clear hov KEY E24 E21 E0 HO HLN hmm
        go_enter Tryz.func74, Tryz.ntmps74
        go_wp2_with fail
        try rw [e9]
        refine bodyPost_ret (v := .tuple #[.agg #[.int .i64 c, .int .i64 n, .int .i64 k, .int .i64 p, .string s, .slice (some ⟨g, off, none⟩) m2 cap2, .int .i64 tc, .int .i64 tn, .bool on], .int .i64 0]) (by simp [results, Tryz.results74, go_sem, r0, r1, r2, r3, r4, r5, r6, r7, r8]) rfl ⟨_, m2, cap2, rfl, HO9.out, hB9⟩
end Go.Proofs.YtmdnmhdimfglaaaGreatDoor

namespace Go.Proofs.YtmdnmhdimfglaaaGreatDoor
open Go.RowKit Go.Lib
set_option maxRecDepth 100000
set_option maxHeartbeats 4000000 in
theorem include_clash {o o2 : OpV} {ear : Bool} {a : Option Addr} {m cap : Nat} {b : Option Addr} {m2 cap2 : Nat} {w : World} (hcl : clashP o o2 = true) : Calls Tryz.prog 49 #[opVal o (.slice a m cap), opVal o2 (.slice b m2 cap2), .bool ear] w fun e w' => Ans w (op0, 50) e w' := by
  have HIS : Hid (∀ W : World, Calls Tryz.prog 71 #[.agg #[.int .i64 o.c, .int .i64 o.n], .agg #[.int .i64 o2.c, .int .i64 o2.n]] W fun e w' => e = .returned (.bool true) ∧ Below W.heap.size W w') := fun W => by
    have := is_anyX o.c o.n o2.c o2.n W
    rw [show isB o.c o.n o2.c o2.n = true from hcl] at this
    exact this
  clear hcl
  obtain ⟨c, n, k, p, s, l, tc, tn, on⟩ := o
  obtain ⟨c2, n2, k2, p2, s2, l2, tc2, tn2, on2⟩ := o2
  unfold Ans
  simp only [opVal] at *
  obtain ⟨W0, hW0⟩ : ∃ W0, ((w.alloc (Obj.cells #[.int .i64 c, .int .i64 n, .int .i64 k, .int .i64 p, .string s, .slice a m cap, .int .i64 tc, .int .i64 tn, .bool on] 34)).alloc (Obj.cells #[.int .i64 c2, .int .i64 n2, .int .i64 k2, .int .i64 p2, .string s2, .slice b m2 cap2, .int .i64 tc2, .int .i64 tn2, .bool on2] 34)).alloc (Obj.cells #[.int .i64 0, .int .i64 0, .int .i64 0, .int .i64 0, .string ⟨#[]⟩, .slice none 0 0, .int .i64 0, .int .i64 0, .bool false] 34) = W0 := ⟨_, rfl⟩
  have hX : W0.heap[w.heap.size]? = some (Obj.cells #[.int .i64 c, .int .i64 n, .int .i64 k, .int .i64 p, .string s, .slice a m cap, .int .i64 tc, .int .i64 tn, .bool on] 34) := by rw [← hW0]; exact (Below.heap_alloc _ _ _ (by simp; omega)).trans ((Below.heap_alloc _ _ _ (by simp)).trans (heap_alloc_new _ _))
  have hY : W0.heap[w.heap.size + 1]? = some (Obj.cells #[.int .i64 c2, .int .i64 n2, .int .i64 k2, .int .i64 p2, .string s2, .slice b m2 cap2, .int .i64 tc2, .int .i64 tn2, .bool on2] 34) := by rw [← hW0]; exact (Below.heap_alloc _ _ _ (by simp)).trans (alloc_last _ _ _ (by simp))
  have hZ : W0.heap[w.heap.size + 2]? = some (Obj.cells #[.int .i64 0, .int .i64 0, .int .i64 0, .int .i64 0, .string ⟨#[]⟩, .slice none 0 0, .int .i64 0, .int .i64 0, .bool false] 34) := by rw [← hW0]; exact alloc_last _ _ _ (by simp)
  have hB0 : Below w.heap.size w W0 := by rw [← hW0]; exact (((Below.refl w.heap.size w).alloc (Nat.le_refl _) _).alloc (by simp) _).alloc (by simp; omega) _
  have alt : w.heap.size + 2 < W0.heap.size := (Array.getElem?_eq_some_iff.1 hZ).1
  obtain ⟨ak0, ak1, ak2, ak3, ak4, ak5, ak6, ak7, ak8⟩ := box9 hX
  obtain ⟨bk0, bk1, bk2, bk3, bk4, bk5, bk6, bk7, bk8⟩ := box9 hY
  obtain ⟨zk0, zk1, zk2, zk3, zk4, zk5, zk6, zk7, zk8⟩ := box9 hZ
  obtain ⟨zz0, zz1, zz2, zz3, zz4, zz5, zz6, zz7, zz8⟩ := wr9 hZ
  go_enter Tryz.func49, Tryz.ntmps49
  go_wp2_with fail
  refine (HIS.out _).mono ?_
  rintro e v1 ⟨rfl, hb1⟩
  have hX1 := (hb1.block _ (by omega)).trans hX
  have hY1 := (hb1.block _ (by omega)).trans hY
  have hZ1 := (hb1.block _ (by omega)).trans hZ
  have hB1 := hB0.trans (hb1.mono hB0.size)
  have alt1 : w.heap.size + 2 < v1.heap.size := (Array.getElem?_eq_some_iff.1 hZ1).1
  clear hb1 hX hY hZ hB0 alt ak0 ak1 ak2 ak3 ak4 ak5 ak6 ak7 ak8 bk0 bk1 bk2 bk3 bk4 bk5 bk6 bk7 bk8 zk0 zk1 zk2 zk3 zk4 zk5 zk6 zk7 zk8 zz0 zz1 zz2 zz3 zz4 zz5 zz6 zz7 zz8 HIS hW0
  obtain ⟨ak0, ak1, ak2, ak3, ak4, ak5, ak6, ak7, ak8⟩ := box9 hX1
  obtain ⟨bk0, bk1, bk2, bk3, bk4, bk5, bk6, bk7, bk8⟩ := box9 hY1
  obtain ⟨zk0, zk1, zk2, zk3, zk4, zk5, zk6, zk7, zk8⟩ := box9 hZ1
  obtain ⟨zz0, zz1, zz2, zz3, zz4, zz5, zz6, zz7, zz8⟩ := wr9 hZ1
  obtain ⟨W9, e9, hx9, hB9, hK9⟩ := store9 hZ1 hB1 (by omega) (.int .i64 0) (.int .i64 0) (.int .i64 0) (.int .i64 0) (.string ⟨#[]⟩) (.slice none 0 0) (.int .i64 0) (.int .i64 0) (.bool false)
  obtain ⟨r0, r1, r2, r3, r4, r5, r6, r7, r8⟩ := box9 hx9
  go_wp2_with fail
  try rw [e9]
  refine bodyPost_ret (v := .tuple #[.agg #[.int .i64 0, .int .i64 0, .int .i64 0, .int .i64 0, .string ⟨#[]⟩, .slice none 0 0, .int .i64 0, .int .i64 0, .bool false], .int .i64 50]) (by simp [results, Tryz.results49, go_sem, r0, r1, r2, r3, r4, r5, r6, r7, r8]) rfl ⟨none, 0, 0, rfl, ownF_nil _ _, hB9⟩
set_option maxHeartbeats 4000000 in
theorem include_same {o o2 : OpV} {ear : Bool} {a : Option Addr} {m cap : Nat} {b : Option Addr} {m2 cap2 : Nat} {w : World} (hR : Sp.Rng w a m cap o.l) (hm : m ≤ 1000000000) (hcl : clashP o o2 = false) (hk : o2.k ≠ 1 ∨ o.k = 4) : Calls Tryz.prog 49 #[opVal o (.slice a m cap), opVal o2 (.slice b m2 cap2), .bool ear] w fun e w' => Ans w (o, 0) e w' := by
  have HIS : Hid (∀ W : World, Calls Tryz.prog 71 #[.agg #[.int .i64 o.c, .int .i64 o.n], .agg #[.int .i64 o2.c, .int .i64 o2.n]] W fun e w' => e = .returned (.bool false) ∧ Below W.heap.size W w') := fun W => by
    have := is_anyX o.c o.n o2.c o2.n W
    rw [show isB o.c o.n o2.c o2.n = false from hcl] at this
    exact this
  have HC : Hid (∀ W, Below w.heap.size w W → Calls Tryz.prog 22 #[opVal o (.slice a m cap)] W fun e w' => ∃ a' cap', e = .returned (opVal o (.slice a' m cap')) ∧ OwnF rangeV 2 91 w' W.heap.size (.slice a' m cap') o.l ∧ Below W.heap.size W w') := fun W hb => copy_any (hR.below hb) hm
  clear hcl hR hm
  obtain ⟨c, n, k, p, s, l, tc, tn, on⟩ := o
  obtain ⟨c2, n2, k2, p2, s2, l2, tc2, tn2, on2⟩ := o2
  unfold Ans
  simp only [opVal] at *
  obtain ⟨W0, hW0⟩ : ∃ W0, ((w.alloc (Obj.cells #[.int .i64 c, .int .i64 n, .int .i64 k, .int .i64 p, .string s, .slice a m cap, .int .i64 tc, .int .i64 tn, .bool on] 34)).alloc (Obj.cells #[.int .i64 c2, .int .i64 n2, .int .i64 k2, .int .i64 p2, .string s2, .slice b m2 cap2, .int .i64 tc2, .int .i64 tn2, .bool on2] 34)).alloc (Obj.cells #[.int .i64 0, .int .i64 0, .int .i64 0, .int .i64 0, .string ⟨#[]⟩, .slice none 0 0, .int .i64 0, .int .i64 0, .bool false] 34) = W0 := ⟨_, rfl⟩
  have hX : W0.heap[w.heap.size]? = some (Obj.cells #[.int .i64 c, .int .i64 n, .int .i64 k, .int .i64 p, .string s, .slice a m cap, .int .i64 tc, .int .i64 tn, .bool on] 34) := by rw [← hW0]; exact (Below.heap_alloc _ _ _ (by simp; omega)).trans ((Below.heap_alloc _ _ _ (by simp)).trans (heap_alloc_new _ _))
  have hY : W0.heap[w.heap.size + 1]? = some (Obj.cells #[.int .i64 c2, .int .i64 n2, .int .i64 k2, .int .i64 p2, .string s2, .slice b m2 cap2, .int .i64 tc2, .int .i64 tn2, .bool on2] 34) := by rw [← hW0]; exact (Below.heap_alloc _ _ _ (by simp)).trans (alloc_last _ _ _ (by simp))
  have hZ : W0.heap[w.heap.size + 2]? = some (Obj.cells #[.int .i64 0, .int .i64 0, .int .i64 0, .int .i64 0, .string ⟨#[]⟩, .slice none 0 0, .int .i64 0, .int .i64 0, .bool false] 34) := by rw [← hW0]; exact alloc_last _ _ _ (by simp)
  have hB0 : Below w.heap.size w W0 := by rw [← hW0]; exact (((Below.refl w.heap.size w).alloc (Nat.le_refl _) _).alloc (by simp) _).alloc (by simp; omega) _
  have alt : w.heap.size + 2 < W0.heap.size := (Array.getElem?_eq_some_iff.1 hZ).1
  obtain ⟨ak0, ak1, ak2, ak3, ak4, ak5, ak6, ak7, ak8⟩ := box9 hX
  obtain ⟨bk0, bk1, bk2, bk3, bk4, bk5, bk6, bk7, bk8⟩ := box9 hY
  obtain ⟨zk0, zk1, zk2, zk3, zk4, zk5, zk6, zk7, zk8⟩ := box9 hZ
  obtain ⟨zz0, zz1, zz2, zz3, zz4, zz5, zz6, zz7, zz8⟩ := wr9 hZ
  go_enter Tryz.func49, Tryz.ntmps49
  go_wp2_with fail
  refine (HIS.out _).mono ?_
  rintro e v1 ⟨rfl, hb1⟩
  have hX1 := (hb1.block _ (by omega)).trans hX
  have hY1 := (hb1.block _ (by omega)).trans hY
  have hZ1 := (hb1.block _ (by omega)).trans hZ
  have hB1 := hB0.trans (hb1.mono hB0.size)
  have alt1 : w.heap.size + 2 < v1.heap.size := (Array.getElem?_eq_some_iff.1 hZ1).1
  clear hb1 hX hY hZ hB0 alt ak0 ak1 ak2 ak3 ak4 ak5 ak6 ak7 ak8 bk0 bk1 bk2 bk3 bk4 bk5 bk6 bk7 bk8 zk0 zk1 zk2 zk3 zk4 zk5 zk6 zk7 zk8 zz0 zz1 zz2 zz3 zz4 zz5 zz6 zz7 zz8 HIS hW0
  obtain ⟨ak0, ak1, ak2, ak3, ak4, ak5, ak6, ak7, ak8⟩ := box9 hX1
  obtain ⟨bk0, bk1, bk2, bk3, bk4, bk5, bk6, bk7, bk8⟩ := box9 hY1
  obtain ⟨zk0, zk1, zk2, zk3, zk4, zk5, zk6, zk7, zk8⟩ := box9 hZ1
  obtain ⟨zz0, zz1, zz2, zz3, zz4, zz5, zz6, zz7, zz8⟩ := wr9 hZ1
  by_cases h1 : k2 = 1
  · have h4 : k = 4 := by rcases hk with h | h; exact absurd h1 h; exact h
    subst h1 h4
    clear hk
    go_wp2_with fail
    refine (HC.out _ hB1).mono ?_
    rintro e v2 ⟨ca, cc, rfl, ho2, hb2⟩
    have HO2 : Hid (OwnF rangeV 2 91 v2 v1.heap.size (.slice ca m cc) l) := ho2
    have hv1 : w.heap.size + 2 < v1.heap.size := alt1
    clear ho2
    have hX2 := (hb2.block _ (by omega)).trans hX1
    have hY2 := (hb2.block _ (by omega)).trans hY1
    have hZ2 := (hb2.block _ (by omega)).trans hZ1
    have hB2 := hB1.trans (hb2.mono hB1.size)
    have alt2 : w.heap.size + 2 < v2.heap.size := (Array.getElem?_eq_some_iff.1 hZ2).1
    clear hb2 hX1 hY1 hZ1 hB1 alt1 ak0 ak1 ak2 ak3 ak4 ak5 ak6 ak7 ak8 bk0 bk1 bk2 bk3 bk4 bk5 bk6 bk7 bk8 zk0 zk1 zk2 zk3 zk4 zk5 zk6 zk7 zk8 zz0 zz1 zz2 zz3 zz4 zz5 zz6 zz7 zz8 HC
    obtain ⟨ak0, ak1, ak2, ak3, ak4, ak5, ak6, ak7, ak8⟩ := box9 hX2
    obtain ⟨bk0, bk1, bk2, bk3, bk4, bk5, bk6, bk7, bk8⟩ := box9 hY2
    obtain ⟨zk0, zk1, zk2, zk3, zk4, zk5, zk6, zk7, zk8⟩ := box9 hZ2
    obtain ⟨zz0, zz1, zz2, zz3, zz4, zz5, zz6, zz7, zz8⟩ := wr9 hZ2
    obtain ⟨W9, e9, hx9, hB9, hK9⟩ := store9 hZ2 hB2 (by omega) (.int .i64 c) (.int .i64 n) (.int .i64 4) (.int .i64 p) (.string s) (.slice ca m cc) (.int .i64 tc) (.int .i64 tn) (.bool on)
    obtain ⟨r0, r1, r2, r3, r4, r5, r6, r7, r8⟩ := box9 hx9
    have HO9 : Hid (OwnF rangeV 2 91 W9 w.heap.size (.slice ca m cc) l) := (hK9.own HO2.out (by omega)).mono (by omega)
    clear HO2
    go_wp2_with fail
    try rw [e9]
    refine bodyPost_ret (v := .tuple #[.agg #[.int .i64 c, .int .i64 n, .int .i64 4, .int .i64 p, .string s, .slice ca m cc, .int .i64 tc, .int .i64 tn, .bool on], .int .i64 0]) (by simp [results, Tryz.results49, go_sem, r0, r1, r2, r3, r4, r5, r6, r7, r8]) rfl ⟨ca, m, cc, rfl, HO9.out, hB9⟩
  · have t1 : (k2 == 1) = false := beq_eq_false_iff_ne.2 h1
    have t2 : (k2 != 1) = true := by simp [bne, t1]
    have t3 : decide (k2 = 1) = false := decide_eq_false h1
    clear hk
    go_wp2_with fail
    refine (HC.out _ hB1).mono ?_
    rintro e v2 ⟨ca, cc, rfl, ho2, hb2⟩
    have HO2 : Hid (OwnF rangeV 2 91 v2 v1.heap.size (.slice ca m cc) l) := ho2
    have hv1 : w.heap.size + 2 < v1.heap.size := alt1
    clear ho2
    have hX2 := (hb2.block _ (by omega)).trans hX1
    have hY2 := (hb2.block _ (by omega)).trans hY1
    have hZ2 := (hb2.block _ (by omega)).trans hZ1
    have hB2 := hB1.trans (hb2.mono hB1.size)
    have alt2 : w.heap.size + 2 < v2.heap.size := (Array.getElem?_eq_some_iff.1 hZ2).1
    clear hb2 hX1 hY1 hZ1 hB1 alt1 ak0 ak1 ak2 ak3 ak4 ak5 ak6 ak7 ak8 bk0 bk1 bk2 bk3 bk4 bk5 bk6 bk7 bk8 zk0 zk1 zk2 zk3 zk4 zk5 zk6 zk7 zk8 zz0 zz1 zz2 zz3 zz4 zz5 zz6 zz7 zz8 HC
    obtain ⟨ak0, ak1, ak2, ak3, ak4, ak5, ak6, ak7, ak8⟩ := box9 hX2
    obtain ⟨bk0, bk1, bk2, bk3, bk4, bk5, bk6, bk7, bk8⟩ := box9 hY2
    obtain ⟨zk0, zk1, zk2, zk3, zk4, zk5, zk6, zk7, zk8⟩ := box9 hZ2
    obtain ⟨zz0, zz1, zz2, zz3, zz4, zz5, zz6, zz7, zz8⟩ := wr9 hZ2
    obtain ⟨W9, e9, hx9, hB9, hK9⟩ := store9 hZ2 hB2 (by omega) (.int .i64 c) (.int .i64 n) (.int .i64 k) (.int .i64 p) (.string s) (.slice ca m cc) (.int .i64 tc) (.int .i64 tn) (.bool on)
    obtain ⟨r0, r1, r2, r3, r4, r5, r6, r7, r8⟩ := box9 hx9
    have HO9 : Hid (OwnF rangeV 2 91 W9 w.heap.size (.slice ca m cc) l) := (hK9.own HO2.out (by omega)).mono (by omega)
    clear HO2
    go_wp2_with fail
    try rw [e9]
    refine bodyPost_ret (v := .tuple #[.agg #[.int .i64 c, .int .i64 n, .int .i64 k, .int .i64 p, .string s, .slice ca m cc, .int .i64 tc, .int .i64 tn, .bool on], .int .i64 0]) (by simp [results, Tryz.results49, go_sem, r0, r1, r2, r3, r4, r5, r6, r7, r8]) rfl ⟨ca, m, cc, rfl, HO9.out, hB9⟩
end Go.Proofs.YtmdnmhdimfglaaaGreatDoor
