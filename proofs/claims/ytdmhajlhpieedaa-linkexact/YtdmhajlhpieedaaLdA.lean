import Derived.Test.YtdmhajlhpieedaaLcO
/-! The reference's link in memory; clone, node, at, Len, Next. -/
namespace Go.Proofs.Ytdmhajlhpieedaa
open Go.RowKit Go.Lib Go.Shelf
set_option maxRecDepth 100000

/-- 'append([]byte(nil), bytes...)' -/
theorem app_nil {w : World} {b : Option Addr} {m c : Nat} {ys : List UInt8} (hR : Rw byU 1 w b m c ys) (hm : m ≤ 140737488355328) : ∃ a' c' W', (Builtin.append_ #[34, 34] 34 #[.slice none 0 0, .slice b m c]).run Try.prog w = .ok (.slice a' m c') W' ∧ OwnF byU 1 5 W' w.heap.size (.slice a' m c') ys ∧ Below w.heap.size w W' := by
  by_cases h0 : 0 < m
  · obtain ⟨g, cap', w', hr, ho, hb, _, _⟩ := appendF (P := Try.prog) kindU layU (ownF_nil (f := byU) (k := 1) (T := 5) w w.heap.size) (Nat.le_refl _) hR h0 (by simpa using hm) (by simp; omega) 34
    simp only [List.length_nil, Nat.zero_add, List.nil_append] at hr ho
    exact ⟨_, _, w', hr, ho, hb⟩
  · obtain rfl : m = 0 := by omega
    obtain rfl : ys = [] := List.length_eq_zero_iff.1 hR.len
    refine ⟨none, 0, w, ?_, ownF_nil _ _, Below.refl _ _⟩
    obtain ⟨i, z, hi, hz, hsz, hby, _⟩ := kindU.info
    cases b with
    | none => simp [Builtin.append_, run_underlying kindU.under, sizeOf, typeInfo, hi, Builtin.lenOf, run_firstCells_none]
    | some ad =>
      have hfc := run_firstCells_some (P := Try.prog) w i.size 0 ad 0 c [] (by simp) (fun j u hu => by simp at hu)
      simp [Builtin.append_, run_underlying kindU.under, sizeOf, typeInfo, hi, Builtin.lenOf, hfc]
/-- What clone leaves. -/
def CloP (W : World) (bl : Nat) (bs : List UInt8) (a' : Option Addr) (c' : Nat) (W' : World) : Prop := OwnF byU 1 5 W' W.heap.size (.slice a' bl c') bs ∧ Below W.heap.size W W'
set_option maxHeartbeats 4000000 in
theorem clone_any {W : World} (num fr tt : Int) {b : Option Addr} {bl c : Nat} {bs : List UInt8} (sp : Bool) (hR : Rw byU 1 W b bl c bs) (hm : bl ≤ 140737488355328) : Calls Try.prog 53 #[.agg #[.int .i64 num, .int .i64 fr, .int .i64 tt, .slice b bl c, .bool sp]] W fun e w' => ∃ a' c', e = .returned (.agg #[.int .i64 num, .int .i64 fr, .int .i64 tt, .slice a' bl c', .bool sp]) ∧ CloP W bl bs a' c' w' := by
  obtain ⟨A1, hA1⟩ : ∃ A1, W.alloc (.cells #[.int .i64 num, .int .i64 fr, .int .i64 tt, .slice b bl c, .bool sp] 73) = A1 := ⟨_, rfl⟩
  obtain ⟨A2, hA2⟩ : ∃ A2, A1.alloc (.cells #[.int .i64 0, .int .i64 0, .int .i64 0, .slice none 0 0, .bool false] 73) = A2 := ⟨_, rfl⟩
  have hB1 : Below W.heap.size W A1 := by rw [← hA1]; exact (Below.refl _ _).alloc (Nat.le_refl _) _
  have hB2 : Below A1.heap.size A1 A2 := by rw [← hA2]; exact (Below.refl _ _).alloc (Nat.le_refl _) _
  have s1 : A1.heap.size = W.heap.size + 1 := by rw [← hA1]; exact World.size_alloc ..
  have s2 : A2.heap.size = A1.heap.size + 1 := by rw [← hA2]; exact World.size_alloc ..
  have x1 : A2.heap[W.heap.size]? = some (.cells #[.int .i64 num, .int .i64 fr, .int .i64 tt, .slice b bl c, .bool sp] 73) := (hB2.block _ (by omega)).trans (by rw [← hA1]; exact heap_alloc_new W _)
  have x2 : A2.heap[A1.heap.size]? = some (.cells #[.int .i64 0, .int .i64 0, .int .i64 0, .slice none 0 0, .bool false] 73) := by rw [← hA2]; exact heap_alloc_new A1 _
  have hBW : Below W.heap.size W A2 := hB1.trans (hB2.mono hB1.size)
  obtain ⟨a', c', W3, hr, ho, hb3⟩ := app_nil (hR.below hBW) hm
  have x3 := (hb3.block _ (by omega : W.heap.size < A2.heap.size)).trans x1
  have y3 := (hb3.block _ (by omega : A1.heap.size < A2.heap.size)).trans x2
  obtain ⟨W4, hW4⟩ : ∃ W4, W3.setCell ⟨W.heap.size, 3, none⟩ (.slice a' bl c') = W4 := ⟨_, rfl⟩
  have x4 := heap_setCell_cells x3 3 (.slice a' bl c')
  rw [hW4] at x4
  have x4' : W4.heap[W.heap.size]? = some (.cells #[.int .i64 num, .int .i64 fr, .int .i64 tt, .slice a' bl c', .bool sp] 73) := x4
  have hC4 : Chg (fun k => k = W.heap.size) W3 W4 := by rw [← hW4]; exact Chg.set (D := fun k => k = W.heap.size) (q := W.heap.size) 3 _ _ rfl
  have y4 := hC4.block y3 (by omega)
  obtain ⟨W5, hW5, hx5, hC5⟩ := set5 (A := []) (B := []) (o := 0) (W := W4) (g := A1.heap.size) (by simpa using y4) rfl (.int .i64 num) (.int .i64 fr) (.int .i64 tt) (.slice a' bl c') (.bool sp)
  simp only [Nat.zero_add] at hW5
  have hx5' : W5.heap[A1.heap.size]? = some (.cells #[.int .i64 num, .int .i64 fr, .int .i64 tt, .slice a' bl c', .bool sp] 73) := by simpa using hx5
  have hs3 := hb3.size
  have HP : Hid (CloP W bl bs a' c' W5) := by
    refine ⟨?_, ?_⟩
    · refine ((ho.mono (by omega)).chg hC4 (fun k hk e => ?_)).chg hC5 (fun k hk e => ?_)
      · have := ho.ge hk; omega
      · have := ho.ge hk; omega
    · exact hBW.trans ((hb3.mono (by omega)).trans ((hC4.below (fun k e => by omega) (by omega)).trans (hC5.below (fun k e => by omega) (by have := hC4.size; omega))))
  have r3 := (box5 x1).2.2.2.1
  have p3 := (box5 x3).2.2.2.1
  have pf := Lib.frozen_of_heap x3 3
  obtain ⟨q0, q1, q2, q3, q4⟩ := box5 x4'
  obtain ⟨⟨t0, t1, t2, t3, t4⟩, z0, z1, z2, z3, z4⟩ := five_cells y4
  obtain ⟨v0, v1, v2, v3, v4⟩ := box5 hx5'
  clear hB1 hB2 s1 s2 x1 x2 hBW ho hb3 x3 y3 x4 x4' hC4 y4 hx5 hC5 hx5' hs3 hR hm
  go_enter Try.func53, Try.ntmps53
  go_wp2_with (first | (refine wpList_append_hr rfl _ _ 34 rfl _ _ rfl rfl hr ?_) | fail)
  refine bodyPost_ret (v := .agg #[.int .i64 num, .int .i64 fr, .int .i64 tt, .slice a' bl c', .bool sp]) (by simp [results, Try.results53, go_sem, v0, v1, v2, v3, v4]) rfl ?_
  exact ⟨a', c', rfl, HP.out⟩
/-- The reference's link in memory. -/
structure RefAt (W : World) (r : Nat) (S : Lk) (rv : Value) (ys : List X) : Prop where
  box : W.heap[r]? = some (.cells #[.int .i64 (S.nodes : Int), .int .i64 (S.most : Int), .int .i64 (S.next : Int), rv] 90)
  row : OffF fv 5 73 W rv ys
  own : ∀ y ∈ ys, OwnF byU 1 5 W 0 y.v y.bs
  fl : S.fl = ys.map X.fg
/-- Its blocks. -/
def RBk (r : Nat) (rv : Value) (ys : List X) (g : Nat) : Prop := g = r ∨ rv.ownBlock = some g ∨ ∃ y ∈ ys, y.v.ownBlock = some g
section
variable {W W' : World} {r : Nat} {S S' : Lk} {rv : Value} {ys : List X}
theorem RefAt.rlt (h : RefAt W r S rv ys) : r < W.heap.size := (Array.getElem?_eq_some_iff.1 h.box).1
theorem RefAt.lt (h : RefAt W r S rv ys) {g : Nat} (hg : RBk r rv ys g) : g < W.heap.size := by
  rcases hg with rfl | hg | ⟨y, hy, hg⟩
  · exact h.rlt
  · exact h.row.lt hg
  · exact (h.own y hy).lt hg
theorem RefAt.chg {D : Nat → Prop} (h : RefAt W r S rv ys) (hC : Chg D W W') (hD : ∀ g, RBk r rv ys g → ¬ D g) : RefAt W' r S rv ys :=
  ⟨hC.block h.box (hD r (.inl rfl)), h.row.chg hC (fun g hg => hD g (.inr (.inl hg))), fun y hy => (h.own y hy).chg hC (fun g hg => hD g (.inr (.inr ⟨y, hy, hg⟩))), h.fl⟩
theorem RefAt.below (h : RefAt W r S rv ys) (hB : Below W.heap.size W W') : RefAt W' r S rv ys :=
  h.chg (D := fun g => W.heap.size ≤ g) (Chg.of_below hB) (fun g hg => by have := h.lt hg; omega)
theorem RefAt.r_ne (h : RefAt W r S rv ys) {g : Nat} (hg : rv.ownBlock = some g) : r ≠ g := by
  rintro rfl
  obtain ⟨cur, hh⟩ := h.row.block hg
  have h1 := h.box
  rw [hh] at h1; simp at h1
theorem RefAt.r_ney (h : RefAt W r S rv ys) {y : X} (hy : y ∈ ys) {g : Nat} (hg : y.v.ownBlock = some g) : r ≠ g := by
  rintro rfl
  obtain ⟨cur, hh⟩ := own_block (h.own y hy) hg
  have h1 := h.box
  rw [hh] at h1; simp at h1
theorem RefAt.v_ney (h : RefAt W r S rv ys) {g' : Nat} (hg' : rv.ownBlock = some g') {y : X} (hy : y ∈ ys) {g : Nat} (hg : y.v.ownBlock = some g) : g' ≠ g := by
  rintro rfl
  obtain ⟨cur, hh⟩ := own_block (h.own y hy) hg
  obtain ⟨cur2, h1⟩ := h.row.block hg'
  rw [hh] at h1; simp at h1
theorem RefAt.len (h : RefAt W r S rv ys) : ys.length = S.fl.length := by rw [h.fl, List.length_map]
theorem RefAt.le (h : RefAt W r S rv ys) (hO : S.Ok) : ys.length ≤ 1048576 := by
  have h1 := hO.most
  have h2 := hO.len
  have h3 := h.len
  omega
/-- What a call leaves of it. -/
def RNx (W W' : World) (r : Nat) (rv : Value) (ys : List X) (S' : Lk) : Prop := ∃ rv' ys', RefAt W' r S' rv' ys' ∧ Chg (RBk r rv ys) W W' ∧ ∀ g, RBk r rv' ys' g → RBk r rv ys g ∨ W.heap.size ≤ g
theorem RefAt.nx (h : RefAt W r S rv ys) (hB : Below W.heap.size W W') : RNx W W' r rv ys S := ⟨rv, ys, h.below hB, Chg.of_below hB, fun _ hg => .inl hg⟩
set_option maxHeartbeats 1000000 in
theorem rlen_any (h : RefAt W r S rv ys) : Calls Try.prog 41 #[.pointer (some ⟨r, 0, none⟩)] W fun e w' => e = .returned (.int .i64 (S.fl.length : Int)) ∧ w' = W := by
  obtain ⟨a, cap, e, _, _⟩ := h.row.shape
  obtain ⟨b0, b1, b2, b3⟩ := box4 h.box
  rw [← h.len]
  subst e
  clear h
  go_enter Try.func41, Try.ntmps41
  go_wp2_with fail
  go_ret
  exact ⟨rfl, rfl⟩
set_option maxHeartbeats 1000000 in
theorem rnext_any (h : RefAt W r S rv ys) : Calls Try.prog 42 #[.pointer (some ⟨r, 0, none⟩)] W fun e w' => e = .returned (.int .i64 (S.next : Int)) ∧ w' = W := by
  obtain ⟨b0, b1, b2, b3⟩ := box4 h.box
  clear h
  go_enter Try.func42, Try.ntmps42
  go_wp2_with fail
  go_ret
  exact ⟨rfl, rfl⟩
set_option maxHeartbeats 1000000 in
theorem rnode_any (h : RefAt W r S rv ys) (k : Int) : Calls Try.prog 57 #[.pointer (some ⟨r, 0, none⟩), .int .i64 k] W fun e w' => e = .returned (.bool (nodeB S k)) ∧ w' = W := by
  obtain ⟨b0, b1, b2, b3⟩ := box4 h.box
  obtain ⟨z, hz⟩ : ∃ z, nodeB S k = z := ⟨_, rfl⟩
  rw [hz]
  have hz' : Hid (nodeB S k = z) := hz
  clear h hz
  by_cases g1 : 0 ≤ k
  · by_cases g2 : k < (S.nodes : Int)
    · go_enter Try.func57, Try.ntmps57
      go_wp2_with fail
      go_ret
      exact ⟨by rw [← hz'.out]; simp [nodeB, g1, g2], rfl⟩
    · go_enter Try.func57, Try.ntmps57
      go_wp2_with fail
      go_ret
      exact ⟨by rw [← hz'.out]; simp [nodeB, g2], rfl⟩
  · go_enter Try.func57, Try.ntmps57
    go_wp2_with fail
    go_ret
    exact ⟨by rw [← hz'.out]; unfold nodeB; rw [decide_eq_false (by omega : ¬ 0 ≤ k)]; rfl, rfl⟩
/-- Where the reference finds a number. -/
def atV (ys : List X) (k : Int) : Int := if (ys.find? (fun y => decide ((y.num : Int) = k))).isSome then ((ys.findIdx (fun y => decide ((y.num : Int) = k))) : Int) else -1
set_option maxHeartbeats 4000000 in
theorem at_hit {l t : List X} {x : X} (h : RefAt W r S rv (l ++ x :: t)) (hO : S.Ok) (k : Int) (hk : (x.num : Int) = k) (hl : ∀ y ∈ l, (y.num : Int) ≠ k) : Calls Try.prog 52 #[.pointer (some ⟨r, 0, none⟩), .int .i64 k] W fun e w' => e = .returned (.int .i64 (l.length : Int)) ∧ w' = W := by
  obtain ⟨a, cap, erv, _, _⟩ := h.row.shape
  have hle := h.le hO
  have b3 := (box4 h.box).2.2.2
  have hR := h.row
  rw [erv] at hR b3
  have HR : Hid (Rw fv 5 W a (l ++ x :: t).length cap (l ++ x :: t) ∧ (∀ y ∈ l, (y.num : Int) ≠ k) ∧ (x.num : Int) = k) := ⟨hR.rw_ layV, hl, hk⟩
  have hlm : l.length < (l ++ x :: t).length := by simp
  obtain ⟨n, hn⟩ : ∃ n, (l ++ x :: t).length = n := ⟨_, rfl⟩
  obtain ⟨m, hm⟩ : ∃ m, l.length = m := ⟨_, rfl⟩
  rw [hn] at b3 HR hlm hle
  rw [hm] at hlm ⊢
  have HM : Hid (l.length = m) := hm
  clear h hO hR erv hk hl hn hm
  go_enter Try.func52, Try.ntmps52
  go_wp2_with fail
  go_loopw [5] (fun vi w => ∃ i : Nat, i ≤ m ∧ vi = .int .i64 (i : Int) ∧ w = W) (fun vi _ => n - (RowKit.intOf vi).toNat)
  case atStart => exact ⟨0, Nat.zero_le _, rfl, rfl⟩
  case round =>
    obtain ⟨i, hi, rfl, hw⟩ := hrel
    obtain rfl := hw.symm
    clear hw
    have j1 : (i : Int) < (n : Int) := by omega
    have j0 : i < n := by omega
    obtain ⟨g, off, y, ea, _, hy, hc⟩ := HR.out.1.at i (by omega)
    subst ea
    have c0 := hc 0 _ rfl
    simp only [Nat.add_zero] at c0
    have ei : IntKind.i64.wrap ((i : Int) + 1) = (i : Int) + 1 := IntWalk.i64_in _ (by omega)
    by_cases him : i = m
    · subst him
      have hyx : y = x := by
        rw [← HM.out] at hy
        simp at hy
        exact hy.symm
      have bk : ((y.num : Int) == k) = true := by rw [hyx, HR.out.2.2]; simp
      have bk2 : (y.num : Int) = k := by rw [hyx, HR.out.2.2]
      clear hc hy hyx
      rw [bk2] at c0
      have bk3 : (k == k) = true := by simp
      clear bk bk2
      go_wp2_with fail
      go_ret
      exact ⟨rfl, rfl⟩
    · have hil : i < l.length := by rw [HM.out]; omega
      have hyl : y ∈ l := by
        rw [List.getElem?_append_left hil] at hy
        exact List.mem_of_getElem? hy
      have bk2 := HR.out.2.1 y hyl
      have bk : ((y.num : Int) == k) = false := beq_eq_false_iff_ne.2 bk2
      clear hc hy hyl
      go_wp2_with fail
      exact ⟨⟨i + 1, by omega, by simp, trivial⟩, by simp [RowKit.intOf]; omega⟩
set_option maxHeartbeats 4000000 in
theorem at_miss (h : RefAt W r S rv ys) (hO : S.Ok) (k : Int) (hl : ∀ y ∈ ys, (y.num : Int) ≠ k) : Calls Try.prog 52 #[.pointer (some ⟨r, 0, none⟩), .int .i64 k] W fun e w' => e = .returned (.int .i64 (-1)) ∧ w' = W := by
  obtain ⟨a, cap, erv, _, _⟩ := h.row.shape
  have hle := h.le hO
  have b3 := (box4 h.box).2.2.2
  have hR := h.row
  rw [erv] at hR b3
  have HR : Hid (Rw fv 5 W a ys.length cap ys ∧ ∀ y ∈ ys, (y.num : Int) ≠ k) := ⟨hR.rw_ layV, hl⟩
  obtain ⟨n, hn⟩ : ∃ n, ys.length = n := ⟨_, rfl⟩
  rw [hn] at b3 HR hle
  clear h hO hR erv hl hn
  go_enter Try.func52, Try.ntmps52
  go_wp2_with fail
  go_loopw [5] (fun vi w => ∃ i : Nat, i ≤ n ∧ vi = .int .i64 (i : Int) ∧ w = W) (fun vi _ => n - (RowKit.intOf vi).toNat)
  case atStart => exact ⟨0, Nat.zero_le _, rfl, rfl⟩
  case round =>
    obtain ⟨i, hi, rfl, hw⟩ := hrel
    obtain rfl := hw.symm
    clear hw
    by_cases j0 : i < n
    · have j1 : (i : Int) < (n : Int) := by omega
      obtain ⟨g, off, y, ea, _, hy, hc⟩ := HR.out.1.at i j0
      subst ea
      have c0 := hc 0 _ rfl
      simp only [Nat.add_zero] at c0
      have ei : IntKind.i64.wrap ((i : Int) + 1) = (i : Int) + 1 := IntWalk.i64_in _ (by omega)
      have bk2 := HR.out.2 y (List.mem_of_getElem? hy)
      have bk : ((y.num : Int) == k) = false := beq_eq_false_iff_ne.2 bk2
      clear hc hy
      go_wp2_with fail
      exact ⟨⟨i + 1, by omega, by simp, trivial⟩, by simp [RowKit.intOf]; omega⟩
    · have j1 : ¬ (i : Int) < (n : Int) := by omega
      go_wp2_with fail
      go_ret
      exact ⟨rfl, rfl⟩
end
end Go.Proofs.Ytdmhajlhpieedaa
