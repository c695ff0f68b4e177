import Derived.Test.YtdmhajlhpieedaaLaJ
/-! Spoil. -/
namespace Go.Proofs.Ytdmhajlhpieedaa
open Go.RowKit Go.Lib Go.Shelf
set_option maxRecDepth 100000

theorem xor_u8 (a b : UInt8) : bits .xor .u8 (a.toNat : Int) (b.toNat : Int) = ((a ^^^ b).toNat : Int) := by
  have ha := a.toNat_lt
  have hb := b.toNat_lt
  have hx : a.toNat ^^^ b.toNat < 2 ^ 8 := Nat.xor_lt_two_pow (by omega) (by omega)
  have h1 : (BitVec.ofInt 8 (a.toNat : Int)).toNat = a.toNat := by
    rw [BitVec.ofInt_natCast, BitVec.toNat_ofNat]; exact Nat.mod_eq_of_lt (by omega)
  have h2 : (BitVec.ofInt 8 (b.toNat : Int)).toNat = b.toNat := by
    rw [BitVec.ofInt_natCast, BitVec.toNat_ofNat]; exact Nat.mod_eq_of_lt (by omega)
  have h3 : ∀ n : Int, IntKind.u8.wrap n = n % 256 := fun n => by simp [IntKind.wrap, IntKind.bits, IntKind.signed]
  show IntKind.u8.wrap ((BitVec.ofInt 8 (a.toNat : Int) ^^^ BitVec.ofInt 8 (b.toNat : Int)).toNat : Int) = _
  rw [BitVec.toNat_xor, h1, h2, h3, UInt8.toNat_xor]
  omega
/-- One byte of a row of one's own is written. -/
theorem own_setU {W : World} {g j : Nat} {bs : List UInt8} {n cap : Nat} (h : OwnF byU 1 5 W 0 (.slice (some ⟨g, 0, none⟩) n cap) bs) (hj : j < bs.length) (u : UInt8) : OwnF byU 1 5 (W.setCell ⟨g, j, none⟩ (.int .u8 (u.toNat : Int))) 0 (.slice (some ⟨g, 0, none⟩) n cap) (bs.set j u) := by
  have hl := flatF_length layU bs
  rcases h.2 with ⟨e, _⟩ | ⟨g', cap', cur, e, hB, hh, hn, hm, hsz, htk⟩
  · cases e
  · simp only [Value.slice.injEq, Option.some.injEq, Addr.mk.injEq, and_true] at e
    obtain ⟨rfl, rfl, rfl⟩ := e
    refine ⟨flatF_length layU _, .inr ⟨g, cap, _, by rw [List.length_set], hB, heap_setCell_cells hh j _, by rw [List.length_set]; exact hn, hm, by simpa using hsz, ?_⟩⟩
    rw [List.length_set]
    have e1 : flatF byU (bs.set j u) = (flatF byU bs).set j (.int .u8 (u.toNat : Int)) := by
      apply List.ext_getElem?
      intro i
      have hg : ∀ (l : List UInt8) (i : Nat), (flatF byU l)[i]? = l[i]?.map (fun b => Value.int .u8 (b.toNat : Int)) := fun l i => by
        by_cases hi : i < l.length
        · have := flatF_get layU l i _ (List.getElem?_eq_getElem hi) 0 Nat.one_pos
          simp only [Nat.mul_one, Nat.add_zero] at this
          rw [this, List.getElem?_eq_getElem hi]; rfl
        · have h5 := flatF_length layU l
          rw [List.getElem?_eq_none (by omega), List.getElem?_eq_none (by omega)]; rfl
      rw [hg, List.getElem?_set, List.getElem?_set, hg]
      by_cases hij : j = i
      · subst hij; simp [hj, hl]
      · simp [hij]
    rw [e1, ← htk, Array.toList_setIfInBounds, List.take_set]
/-- One cell of a flight in the row is written. -/
theorem off_setB {W : World} {g o : Nat} {pre post : List Value} {l r : List X} {x : X} (hh : W.heap[g]? = some (.cells (pre ++ flatF fv (l ++ x :: r) ++ post).toArray 73)) (ho : pre.length = o) (x' : X) (hx : fv x' = [.int .i64 (x.num : Int), .int .i64 x.fr, .int .i64 x.tt, .slice x.a x.bs.length x.cap, .bool true]) :
    (W.setCell ⟨g, o + l.length * 5 + 4, none⟩ (.bool true)).heap[g]? = some (.cells (pre ++ flatF fv (l ++ x' :: r) ++ post).toArray 73) := by
  have hlf := flatF_length layV l
  have e1 : pre ++ flatF fv (l ++ x :: r) ++ post = (pre ++ flatF fv l) ++ [.int .i64 (x.num : Int), .int .i64 x.fr, .int .i64 x.tt, .slice x.a x.bs.length x.cap, .bool x.sp] ++ (flatF fv r ++ post) := by
    simp [flatF, fv, List.append_assoc]
  have e2 : pre ++ flatF fv (l ++ x' :: r) ++ post = (pre ++ flatF fv l) ++ [.int .i64 (x.num : Int), .int .i64 x.fr, .int .i64 x.tt, .slice x.a x.bs.length x.cap, .bool true] ++ (flatF fv r ++ post) := by
    rw [← hx]; simp [flatF, List.append_assoc]
  rw [e1] at hh
  rw [heap_setCell_cells hh, e2, show o + l.length * 5 + 4 = (pre ++ flatF fv l).length + 4 by rw [List.length_append, hlf, ho]]
  congr 2
  generalize pre ++ flatF fv l = A
  simp [List.setIfInBounds_toArray, List.append_assoc]
def spoilX (x : X) (j : Nat) (m : UInt8) : X := { x with bs := x.bs.set j ((x.bs.getD j 0) ^^^ m), sp := true }
def spoilS (S : Lk) (l r : List X) (x' : X) : Lk := { S with fl := (l ++ x' :: r).map X.fg }
def SpoilP (W : World) (q : Nat) (S : Lk) (rv : Value) (l r : List X) (x x' : X) (W' : World) : Prop := LinkAt W' q (spoilS S l r x') rv (l ++ x' :: r) ∧ Chg (fun g => rv.ownBlock = some g ∨ x.v.ownBlock = some g) W W'
theorem SpoilP.from {W W1 W' : World} {q : Nat} {S : Lk} {rv : Value} {l r : List X} {x x' : X} (hB : Below W.heap.size W W1) (h : SpoilP W1 q S rv l r x x' W') : SpoilP W q S rv l r x x' W' := ⟨h.1, (Chg.of_below hB).trans h.2⟩
theorem SpoilP.nx {W W' : World} {q : Nat} {S : Lk} {rv : Value} {l r : List X} {x : X} {j : Nat} {m : UInt8} (h : SpoilP W q S rv l r x (spoilX x j m) W') : Nx W W' q rv (l ++ x :: r) (spoilS S l r (spoilX x j m)) := by
  refine ⟨rv, _, h.1, h.2.mono (fun g _ e => by rcases e with e | e; exact .inr (.inl e); exact .inr (.inr ⟨x, by simp, e⟩)), fun g hg => .inl ?_⟩
  rcases hg with e | e | ⟨y, hy, e⟩
  · exact .inl e
  · exact .inr (.inl e)
  · rcases List.mem_append.1 hy with hy | hy
    · exact .inr (.inr ⟨y, by simp [hy], e⟩)
    · rcases List.mem_cons.1 hy with rfl | hy
      · refine .inr (.inr ⟨x, by simp, ?_⟩)
        simpa [X.v, spoilX] using e
      · exact .inr (.inr ⟨y, by simp [hy], e⟩)
theorem spoil_mem {W : World} {q : Nat} {S : Lk} {rv : Value} {l r : List X} {x : X} (h : LinkAt W q S rv (l ++ x :: r)) {g o n cap g2 j : Nat} (erv : rv = .slice (some ⟨g, o, none⟩) n cap) (ea : x.a = some ⟨g2, 0, none⟩) (hj : j < x.bs.length) (m : UInt8) {W1 W2 : World}
    (h1 : W.setCell ⟨g2, j, none⟩ (.int .u8 (((x.bs.getD j 0) ^^^ m).toNat : Int)) = W1) (h2 : W1.setCell ⟨g, o + l.length * 5 + 4, none⟩ (.bool true) = W2) : SpoilP W q S rv l r x (spoilX x j m) W2 := by
  have hx : x ∈ l ++ x :: r := by simp
  have hgb : rv.ownBlock = some g := by rw [erv]; rfl
  have hg2 : x.v.ownBlock = some g2 := by rw [X.v, ea]; rfl
  have hne := h.r_ne_g hgb hx hg2
  have hC1 : Chg (fun k => k = g2) W W1 := by rw [← h1]; exact Chg.set (D := fun k => k = g2) (q := g2) j _ _ rfl
  have hC2 : Chg (fun k => k = g) W1 W2 := by rw [← h2]; exact Chg.set (D := fun k => k = g) (q := g) _ _ _ rfl
  have hC : Chg (fun k => rv.ownBlock = some k ∨ x.v.ownBlock = some k) W W2 := (hC1.mono (fun k _ e => .inr (by rw [e]; exact hg2))).trans (hC2.mono (fun k _ e => .inl (by rw [e]; exact hgb)))
  refine ⟨⟨hC.block h.box (fun e => ?_), ?_, fun y hy => ?_, ?_, rfl⟩, hC⟩
  · rcases e with e | e
    · exact h.q_ne_r e rfl
    · exact h.q_ne_g hx e rfl
  · rcases h.row with ⟨e0, e1⟩ | ⟨g', pre, post, cap', e, hh, hp, hl1, hl2⟩
    · simp at e1
    · rw [erv] at e
      simp only [Value.slice.injEq, Option.some.injEq, Addr.mk.injEq, and_true] at e
      obtain ⟨⟨rfl, rfl⟩, rfl, rfl⟩ := e
      have hh1 := hC1.block hh (fun e => hne e)
      have := off_setB hh1 rfl (spoilX x j m) (by simp [fv, spoilX])
      rw [h2] at this
      refine .inr ⟨g, pre, post, cap, by rw [erv]; simp, this, by rw [hp]; simp, by simpa using hl1, hl2⟩
  · have hk : ∀ y, y ∈ l ∨ y ∈ r → OwnF byU 1 5 W2 0 y.v y.bs := fun y hy => (h.own y (by rcases hy with hy | hy <;> simp [hy])).chg hC (fun k hk e => by
      rcases e with e | e
      · exact h.r_ne_g e (by rcases hy with hy | hy <;> simp [hy] : y ∈ l ++ x :: r) hk rfl
      · exact gs_apart h.gs hy e hk)
    rcases List.mem_append.1 hy with hy | hy
    · exact hk y (.inl hy)
    · rcases List.mem_cons.1 hy with rfl | hy
      · have h3 := h.own x hx
        rw [X.v, ea] at h3
        have h4 := own_setU h3 hj ((x.bs.getD j 0) ^^^ m)
        rw [h1] at h4
        have h5 := h4.chg hC2 (fun k hk e => by simp [Value.ownBlock] at hk; exact hne (by rw [← e, ← hk]))
        simpa [X.v, spoilX, ea] using h5
      · exact hk y (.inr hy)
  · have hgs := h.gs
    have e1 : (spoilX x j m).v.ownBlock = x.v.ownBlock := by simp [X.v, spoilX]
    rw [List.pairwise_append, List.pairwise_cons] at hgs ⊢
    refine ⟨hgs.1, ⟨fun y hy k hk => hgs.2.1.1 y hy k (by rw [← e1]; exact hk), hgs.2.1.2⟩, fun y hy z hz => ?_⟩
    rcases List.mem_cons.1 hz with rfl | hz
    · intro k hk e
      exact hgs.2.2 y hy x (List.mem_cons_self ..) k hk (by rw [← e1]; exact e)
    · exact hgs.2.2 y hy z (List.mem_cons_of_mem _ hz)
section
variable {W : World} {q : Nat} {S : Lk} {rv : Value} {xs l r : List X} {x : X}
set_option maxHeartbeats 1000000 in
theorem spoil_miss (h : LinkAt W q S rv xs) (hO : S.Ok) (k at_ : Int) (m : UInt8) (hk : ∀ x ∈ xs, (x.num : Int) ≠ k) : Calls Try.prog 14 #[.pointer (some ⟨q, 0, none⟩), .int .i64 k, .int .i64 at_, .int .u8 (m.toNat : Int)] W fun e w' => e = .returned (.int .i64 160) ∧ Below W.heap.size W w' := by
  have HF : Hid (Calls Try.prog 28 #[.pointer (some ⟨q, 0, none⟩), .int .i64 k] W fun e w' => e = .returned (.tuple #[.int .i64 0, .int .i64 160]) ∧ Below W.heap.size W w') := find_miss h hO k hk
  clear h hO hk
  go_enter Try.func14, Try.ntmps14
  go_wp2_with fail
  refine HF.out.mono ?_
  rintro e w1 ⟨rfl, hb⟩
  have hb' : Hid (Below W.heap.size W w1) := hb
  clear hb
  go_wp2_with fail
  go_ret
  exact ⟨rfl, hb'.out⟩
/-- What Spoil answers of a packet that is there. -/
def spoilE (x : X) (at_ : Int) (m : UInt8) : Int := if at_ < 0 ∨ (x.bs.length : Int) ≤ at_ ∨ m = 0 then 12 else if x.sp then 162 else 0
def SpoilQ (W : World) (q : Nat) (S : Lk) (rv : Value) (l r : List X) (x : X) (at_ : Int) (m : UInt8) (W' : World) : Prop := (spoilE x at_ m ≠ 0 → Below W.heap.size W W') ∧ (spoilE x at_ m = 0 → SpoilP W q S rv l r x (spoilX x at_.toNat m) W')
set_option maxHeartbeats 4000000 in
theorem spoil_hit (h : LinkAt W q S rv (l ++ x :: r)) (hO : S.Ok) (k at_ : Int) (m : UInt8) (hk : (x.num : Int) = k) : Calls Try.prog 14 #[.pointer (some ⟨q, 0, none⟩), .int .i64 k, .int .i64 at_, .int .u8 (m.toNat : Int)] W fun e w' => e = .returned (.int .i64 (spoilE x at_ m)) ∧ SpoilQ W q S rv l r x at_ m w' := by
  have HF : Hid (Calls Try.prog 28 #[.pointer (some ⟨q, 0, none⟩), .int .i64 k] W fun e w' => e = .returned (.tuple #[.int .i64 (l.length : Int), .int .i64 0]) ∧ Below W.heap.size W w') := find_hit h hO k hk
  have HL : Hid (LinkAt W q S rv (l ++ x :: r)) := h
  have hlen : l.length ≤ 1048576 := by have := h.le hO; simp at this; omega
  obtain ⟨z, hz⟩ : ∃ z, spoilE x at_ m = z := ⟨_, rfl⟩
  have HZ : Hid (spoilE x at_ m = z) := hz
  obtain ⟨R, hR⟩ : ∃ R, SpoilQ W q S rv l r x at_ m = R := ⟨_, rfl⟩
  have HR : Hid (SpoilQ W q S rv l r x at_ m = R) := hR
  rw [hz, hR]
  clear h hO hk hz hR
  by_cases g1 : at_ < 0
  · go_enter Try.func14, Try.ntmps14
    go_wp2_with fail
    refine HF.out.mono ?_
    rintro e w1 ⟨rfl, hb⟩
    have hB1 : Hid (Below W.heap.size W w1) := hb
    have hL1 := HL.out.below hb
    obtain ⟨a, cap, erv, hcap, hcm⟩ := hL1.row.shape
    have hR1 := hL1.row
    rw [erv] at hR1
    obtain ⟨g, off, x', ha, hg, hx', hc⟩ := (hR1.rw_ layV).at l.length (by simp)
    obtain rfl : x = x' := by simp at hx'; exact hx'
    have k3 := (box4 hL1.box).2.2.2
    subst ha
    obtain ⟨n, hn⟩ : ∃ n, (l ++ x :: r).length = n := ⟨_, rfl⟩
    rw [erv, hn] at k3
    have c3 := hc 3 _ rfl
    have c4 := hc 4 _ rfl
    have hln : l.length < n := by rw [← hn]; simp
    obtain ⟨i, hi⟩ : ∃ i, l.length = i := ⟨_, rfl⟩
    rw [hi] at hlen hln c3 c4
    rw [hi]
    clear hb hL1 hR1 hc hx' erv hcap hcm hn hi hg HL HF
    go_wp2_with fail
    go_ret
    have e0 : spoilE x at_ m = 12 := by simp [spoilE, g1]
    refine ⟨by rw [← HZ.out, e0]; rfl, ?_⟩
    rw [← HR.out]
    exact ⟨fun _ => hB1.out, fun h => by rw [e0] at h; simp at h⟩
  · obtain ⟨j, rfl⟩ : ∃ j : Nat, at_ = (j : Int) := ⟨at_.toNat, by omega⟩
    by_cases g2 : x.bs.length ≤ j
    · have g2' : (x.bs.length : Int) ≤ (j : Int) := by omega
      go_enter Try.func14, Try.ntmps14
      go_wp2_with fail
      refine HF.out.mono ?_
      rintro e w1 ⟨rfl, hb⟩
      have hB1 : Hid (Below W.heap.size W w1) := hb
      have hL1 := HL.out.below hb
      obtain ⟨a, cap, erv, hcap, hcm⟩ := hL1.row.shape
      have hR1 := hL1.row
      rw [erv] at hR1
      obtain ⟨g, off, x', ha, hg, hx', hc⟩ := (hR1.rw_ layV).at l.length (by simp)
      obtain rfl : x = x' := by simp at hx'; exact hx'
      have k3 := (box4 hL1.box).2.2.2
      subst ha
      obtain ⟨n, hn⟩ : ∃ n, (l ++ x :: r).length = n := ⟨_, rfl⟩
      rw [erv, hn] at k3
      have c3 := hc 3 _ rfl
      have c4 := hc 4 _ rfl
      have hln : l.length < n := by rw [← hn]; simp
      obtain ⟨i, hi⟩ : ∃ i, l.length = i := ⟨_, rfl⟩
      rw [hi] at hlen hln c3 c4
      rw [hi]
      clear hb hL1 hR1 hc hx' erv hcap hcm hn hi hg HL HF
      go_wp2_with fail
      go_ret
      have e0 : spoilE x (j : Int) m = 12 := by simp [spoilE, g2]
      refine ⟨by rw [← HZ.out, e0]; rfl, ?_⟩
      rw [← HR.out]
      exact ⟨fun _ => hB1.out, fun h => by rw [e0] at h; simp at h⟩
    · have g2' : ¬ (x.bs.length : Int) ≤ (j : Int) := by omega
      have g2n : j < x.bs.length := by omega
      by_cases g3 : m = 0
      · subst g3
        have g3' : ((0 : UInt8).toNat : Int) = 0 := rfl
        rw [g3']
        go_enter Try.func14, Try.ntmps14
        go_wp2_with fail
        refine HF.out.mono ?_
        rintro e w1 ⟨rfl, hb⟩
        have hB1 : Hid (Below W.heap.size W w1) := hb
        have hL1 := HL.out.below hb
        obtain ⟨a, cap, erv, hcap, hcm⟩ := hL1.row.shape
        have hR1 := hL1.row
        rw [erv] at hR1
        obtain ⟨g, off, x', ha, hg, hx', hc⟩ := (hR1.rw_ layV).at l.length (by simp)
        obtain rfl : x = x' := by simp at hx'; exact hx'
        have k3 := (box4 hL1.box).2.2.2
        subst ha
        obtain ⟨n, hn⟩ : ∃ n, (l ++ x :: r).length = n := ⟨_, rfl⟩
        rw [erv, hn] at k3
        have c3 := hc 3 _ rfl
        have c4 := hc 4 _ rfl
        have hln : l.length < n := by rw [← hn]; simp
        obtain ⟨i, hi⟩ : ∃ i, l.length = i := ⟨_, rfl⟩
        rw [hi] at hlen hln c3 c4
        rw [hi]
        clear hb hL1 hR1 hc hx' erv hcap hcm hn hi hg HL HF
        go_wp2_with fail
        go_ret
        have e0 : spoilE x (j : Int) 0 = 12 := by simp [spoilE]
        refine ⟨by rw [← HZ.out, e0]; rfl, ?_⟩
        rw [← HR.out]
        exact ⟨fun _ => hB1.out, fun h => by rw [e0] at h; simp at h⟩
      · have g3' : ((m.toNat : Int) == 0) = false := by
          rw [beq_eq_false_iff_ne]; intro e; exact g3 (by apply UInt8.toNat_inj.1; simpa using e)
        have g3n : ¬ (m.toNat : Int) = 0 := by simpa using g3'
        obtain ⟨mi, hmi⟩ : ∃ mi : Int, (m.toNat : Int) = mi := ⟨_, rfl⟩
        have HM : Hid ((m.toNat : Int) = mi) := hmi
        rw [hmi] at g3' g3n ⊢
        clear hmi
        by_cases g4 : x.sp = true
        · skip
          go_enter Try.func14, Try.ntmps14
          go_wp2_with fail
          refine HF.out.mono ?_
          rintro e w1 ⟨rfl, hb⟩
          have hB1 : Hid (Below W.heap.size W w1) := hb
          have hL1 := HL.out.below hb
          obtain ⟨a, cap, erv, hcap, hcm⟩ := hL1.row.shape
          have hR1 := hL1.row
          rw [erv] at hR1
          obtain ⟨g, off, x', ha, hg, hx', hc⟩ := (hR1.rw_ layV).at l.length (by simp)
          obtain rfl : x = x' := by simp at hx'; exact hx'
          have k3 := (box4 hL1.box).2.2.2
          subst ha
          obtain ⟨n, hn⟩ : ∃ n, (l ++ x :: r).length = n := ⟨_, rfl⟩
          rw [erv, hn] at k3
          have c3 := hc 3 _ rfl
          have c4 := hc 4 _ rfl
          have hln : l.length < n := by rw [← hn]; simp
          obtain ⟨i, hi⟩ : ∃ i, l.length = i := ⟨_, rfl⟩
          rw [g4] at c4
          rw [hi] at hlen hln c3 c4
          rw [hi]
          clear hb hL1 hR1 hc hx' erv hcap hcm hn hi hg HL HF
          go_wp2_with fail
          go_ret
          have e0 : spoilE x (j : Int) m = 162 := by simp [spoilE, g2n, g3, g4]
          refine ⟨by rw [← HZ.out, e0]; rfl, ?_⟩
          rw [← HR.out]
          exact ⟨fun _ => hB1.out, fun h => by rw [e0] at h; simp at h⟩
        · have g4' : x.sp = false := by simpa using g4
          go_enter Try.func14, Try.ntmps14
          go_wp2_with fail
          refine HF.out.mono ?_
          rintro e w1 ⟨rfl, hb⟩
          have hB1 : Hid (Below W.heap.size W w1) := hb
          have hL1 := HL.out.below hb
          obtain ⟨a, cap, erv, hcap, hcm⟩ := hL1.row.shape
          have hR1 := hL1.row
          rw [erv] at hR1
          obtain ⟨g, off, x', ha, hg, hx', hc⟩ := (hR1.rw_ layV).at l.length (by simp)
          obtain rfl : x = x' := by simp at hx'; exact hx'
          have k3 := (box4 hL1.box).2.2.2
          subst ha
          obtain ⟨n, hn⟩ : ∃ n, (l ++ x :: r).length = n := ⟨_, rfl⟩
          rw [erv, hn] at k3
          have c3 := hc 3 _ rfl
          have c4 := hc 4 _ rfl
          have hln : l.length < n := by rw [← hn]; simp
          obtain ⟨i, hi⟩ : ∃ i, l.length = i := ⟨_, rfl⟩
          rw [g4'] at c4
          have hOx := hL1.own x (by simp)
          obtain ⟨g2, ea⟩ : ∃ g2, x.a = some ⟨g2, 0, none⟩ := by
            rcases hOx.2 with ⟨e, h0⟩ | ⟨g2, cap', cur, e, _⟩
            · omega
            · simp only [X.v, Value.slice.injEq] at e; exact ⟨g2, e.1⟩
          obtain ⟨cur, hcur⟩ := own_block hOx (g := g2) (by rw [X.v, ea]; rfl)
          have hz2 := Lib.frozen_of_heap hcur j
          obtain ⟨gb, ob, bb, eb, _, hbb, hcb⟩ := (hOx.rw_ layU).at j g2n
          rw [ea] at eb c3
          simp only [Option.some.injEq, Addr.mk.injEq, and_true] at eb
          obtain ⟨rfl, rfl⟩ := eb
          have c5 := hcb 0 _ rfl
          simp only [Nat.mul_one, Nat.zero_add, Nat.add_zero] at c5
          obtain ⟨bl, hbl⟩ : ∃ bl, x.bs.length = bl := ⟨_, rfl⟩
          have HBL : Hid (x.bs.length = bl) := hbl
          rw [hbl] at c3 g2n g2'
          obtain ⟨W1, hW1⟩ : ∃ W1, w1.setCell ⟨g2, j, none⟩ (.int .u8 ((bb ^^^ m).toNat : Int)) = W1 := ⟨_, rfl⟩
          have hC1 : Chg (fun k => k = g2) w1 W1 := by rw [← hW1]; exact Chg.set (D := fun k => k = g2) (q := g2) j _ _ rfl
          have hgb : rv.ownBlock = some g := by rw [erv]; rfl
          have hne := hL1.r_ne_g hgb (x := x) (by simp) (g := g2) (by rw [X.v, ea]; rfl)
          obtain ⟨curR, hcurR⟩ := hL1.row.block hgb
          have c6 : W1.cell? ⟨g, off + l.length * 5 + 4, none⟩ = some (.bool false) := (hC1.cell (p := ⟨g, off + l.length * 5 + 4, none⟩) hg hne).trans c4
          have z6 := Lib.frozen_of_heap (hC1.block hcurR hne) (off + l.length * 5 + 4)
          have HO : Hid (∀ W2, W1.setCell ⟨g, off + l.length * 5 + 4, none⟩ (.bool true) = W2 → SpoilP W q S rv l r x (spoilX x j m) W2) := fun W2 h2 => (spoil_mem hL1 erv ea (by omega) m (by rw [List.getD_eq_getElem?_getD, hbb]; exact hW1) h2).from hb
          rw [hi] at c6 z6 HO
          obtain ⟨bi, hbi⟩ : ∃ bi : Int, (bb.toNat : Int) = bi := ⟨_, rfl⟩
          obtain ⟨xi, hxi⟩ : ∃ xi : Int, ((bb ^^^ m).toNat : Int) = xi := ⟨_, rfl⟩
          have hbx : bits .xor .u8 bi mi = xi := by rw [← hbi, ← HM.out, ← hxi]; exact xor_u8 bb m
          rw [hbi] at c5
          rw [hxi] at hW1
          clear hOx hcur hcb hbb hbl hC1 hgb hne hcurR hbi hxi
          rw [hi] at hlen hln c3 c4
          rw [hi]
          clear hb hL1 hR1 hc hx' erv hcap hcm hn hi hg HL HF
          go_wp2_with fail
          go_ret
          have e0 : spoilE x (j : Int) m = 0 := by simp [spoilE, HBL.out, g2n, g3, g4']
          refine ⟨by rw [← HZ.out, e0]; rfl, ?_⟩
          rw [← HR.out]
          exact ⟨fun h => absurd e0 h, fun _ => HO.out _ rfl⟩
end
end Go.Proofs.Ytdmhajlhpieedaa
