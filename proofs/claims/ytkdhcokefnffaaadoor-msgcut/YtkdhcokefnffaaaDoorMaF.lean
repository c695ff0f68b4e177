import Derived.Test.YtkdhcokefnffaaaDoorMaE
/-! appendNumbers. -/
namespace Go.Proofs.YtkdhcokefnffaaaDoor
open Go.RowKit Go.Lib Sp
set_option maxRecDepth 100000

/-- A number's bytes. -/
def encF : Nat → Nat → List Nat
  | 0, _ => []
  | f + 1, n => if n < 128 then [n] else (128 + n % 128) :: encF f (n / 128)
def encP (n : Nat) : List Nat := encF 4 n
theorem encF_len : ∀ f n, (encF f n).length ≤ f
  | 0, _ => by simp [encF]
  | f + 1, n => by
    rw [encF]
    split
    · simp
    · simp only [List.length_cons]; have := encF_len f (n / 128); omega
def encL (ns : List Nat) : List Nat := ns.flatMap encP
theorem encL_append (a b : List Nat) : encL (a ++ b) = encL a ++ encL b := by simp [encL]
theorem encL_len (ns : List Nat) : (encL ns).length ≤ 4 * ns.length := by
  induction ns with
  | nil => simp [encL]
  | cons x r ih =>
    have := encF_len 4 x
    simp only [encL, List.flatMap_cons, List.length_append, List.length_cons, encP] at ih ⊢
    omega
def i64V (n : Nat) : List Value := [.int .i64 n]
theorem layN64 : Lay i64V 1 := ⟨fun _ => rfl, by decide, fun x u hu => by simp [i64V] at hu; subst hu; rfl⟩
theorem bits_or_u8 (m : Nat) : bits .or .u8 (IntKind.u8.wrap (m : Int)) 128 = ((128 + m % 128 : Nat) : Int) := by
  have e0 : IntKind.u8.wrap (m : Int) = ((m % 256 : Nat) : Int) := by rw [IntKind.wrap_u8]; omega
  rw [e0]
  show IntKind.u8.wrap ((BitVec.ofInt 8 ((m % 256 : Nat) : Int) ||| BitVec.ofInt 8 (128 : Int)).toNat : Int) = _
  have e1 : (BitVec.ofInt 8 ((m % 256 : Nat) : Int) ||| BitVec.ofInt 8 (128 : Int)).toNat = 128 + m % 128 := by
    have h : ∀ x : Fin 256, (BitVec.ofInt 8 ((x.val : Nat) : Int) ||| BitVec.ofInt 8 (128 : Int)).toNat = 128 + x.val % 128 := by decide
    have := h ⟨m % 256, Nat.mod_lt _ (by decide)⟩
    rw [this]
    simp only
    omega
  rw [e1]
  exact IntWalk.u8_in _ (by omega)

/-- The world W with the bytes v0 came of w with the bytes v by appends to them. -/
structure GB (B : Nat) (w : World) (v : Value) (W : World) (v0 : Value) : Prop where
  below : Below B w W
  keep : ∀ g, g < w.heap.size → v.ownBlock ≠ some g → W.heap[g]? = w.heap[g]?
  own : ∀ g, v0.ownBlock = some g → v.ownBlock = some g ∨ w.heap.size ≤ g
theorem GB.refl (B : Nat) (w : World) (v : Value) : GB B w v w v := ⟨Below.refl _ _, fun _ _ _ => rfl, fun _ h => .inl h⟩
theorem GB.trans {B : Nat} {w W W' : World} {v v0 v' : Value} (h : GB B w v W v0) (k : GB B W v0 W' v') : GB B w v W' v' := by
  have hs := h.below.size
  refine ⟨h.below.trans k.below, fun g hg hv => (k.keep g (by omega) (fun e => ?_)).trans (h.keep g hg hv), fun g hg => ?_⟩
  · rcases h.own g e with e2 | e2
    · exact hv e2
    · omega
  · rcases k.own g hg with e | e
    · exact h.own g e
    · right; omega
/-- Bytes of one's own, and numbers that lie elsewhere. -/
structure Two (W : World) (B : Nat) (v : Value) (L : List Nat) (a : Option Addr) (n cap : Nat) (ns : List Nat) : Prop where
  own : OwnF byV 1 5 W B v L
  size : B ≤ W.heap.size
  nums : Rw i64V 1 W a n cap ns
  apart : ∀ g off, a = some ⟨g, off, none⟩ → v.ownBlock ≠ some g
  lt : ∀ g off, a = some ⟨g, off, none⟩ → g < W.heap.size
theorem Two.push {W : World} {B : Nat} {v : Value} {L : List Nat} {a : Option Addr} {n cap : Nat} {ns : List Nat} (h : Two W B v L a n cap ns) (hL : L.length ≤ 1073741824) (x : Nat) :
    ∃ v' W', (Builtin.append_ #[39, 39] 39 #[v, .slice (some ⟨W.heap.size, 0, none⟩) 1 1]).run Tryd.prog (W.alloc (.cells #[.int .u8 x] 5)) = .ok v' W' ∧ Two W' B v' (L ++ [x]) a n cap ns ∧ GB B W v W' v' := by
  obtain ⟨g, cap', w3, hr, ho, hbl, hk, hsz, hat⟩ := appendF_one kindB layB h.own h.size x #[.int .u8 x] rfl 5 (by omega) (by omega) 39
  refine ⟨_, w3, hr, ⟨ho, Nat.le_trans h.size hbl.size, ?_, fun g' off e he => ?_, fun g' off e => by have := h.lt g' off e; omega⟩, ⟨hbl, hk, fun g' hg' => ?_⟩⟩
  · refine ⟨h.nums.len, h.nums.room, fun h0 => ?_⟩
    obtain ⟨q, off, e, hq, hc⟩ := h.nums.cells h0
    refine ⟨q, off, e, by omega, fun j y hj i u hu => ?_⟩
    rw [← hc j y hj i u hu]
    unfold World.cell?
    rw [hk q hq (h.apart q off e)]
  · simp only [Value.ownBlock, Option.some.injEq] at he
    subst he
    rcases hat with e2 | e2
    · exact h.apart _ off e e2
    · have := h.lt _ off e
      omega
  · simp only [Value.ownBlock, Option.some.injEq] at hg'
    subst hg'
    rcases hat with e2 | e2
    · exact .inl e2
    · right; omega

set_option maxHeartbeats 2000000 in
theorem appendNumbers_any {w : World} {B : Nat} {v : Value} {l : List Nat} {a : Option Addr} {n cap : Nat} {ns : List Nat} (h : Two w B v l a n cap ns) (hl : l.length ≤ 1048576) (hns : ∀ x ∈ ns, x < 268435456) (hlen : n ≤ 64) :
    Calls Tryd.prog 31 #[v, .slice a n cap] w fun e w' => ∃ v', e = .returned v' ∧ OwnF byV 1 5 w' B v' (l ++ encL ns) ∧ GB B w v w' v' := by
  have hL0 : ∀ k, (l ++ encL (ns.take k)).length ≤ 1048576 + 256 := fun k => by
    have h1 := encL_len (ns.take k)
    have h2 := h.nums.len
    rw [List.length_take] at h1
    rw [List.length_append]
    omega
  go_enter Tryd.func31, Tryd.ntmps31
  go_wp2_with fail
  go_loopw [0, 9] (fun v0 v9 W => ∃ k : Nat, k ≤ n ∧ v9 = .int .i64 k ∧ Two W B v0 (l ++ encL (ns.take k)) a n cap ns ∧ GB B w v W v0) (fun _ v9 _ => n - (RowKit.intOf v9).toNat)
  case atStart => exact ⟨0, Nat.zero_le _, rfl, by simpa [encL] using h, GB.refl _ _ _⟩
  case round =>
    obtain ⟨k, hk, rfl, hT, hb⟩ := hrel
    rcases Nat.lt_or_ge k n with hkn | hkn
    · obtain ⟨g, off, x, rfl, hg, hx, hcs⟩ := hT.nums.at k hkn
      have hcx := hcs 0 _ rfl
      simp only [Nat.mul_one, Nat.add_zero] at hcx
      have hx2 := hns x (List.mem_of_getElem? hx)
      have hLk := hL0 k
      have htk : ns.take (k + 1) = ns.take k ++ [x] := by rw [List.take_add_one, hx]; rfl
      have HH : Hid (x < 268435456 ∧ (l ++ encL (ns.take k)).length ≤ 1048576 + 256 ∧ ns.take (k + 1) = ns.take k ++ [x] ∧ k ≤ n) := ⟨hx2, hLk, htk, hk⟩
      have HT : Hid (Two wr B u0 (l ++ encL (ns.take k)) (some ⟨g, off, none⟩) n cap ns ∧ GB B w v wr u0) := ⟨hT, hb⟩
      clear hT hb hcs hx hx2 hLk htk h hk
      go_wp2_with fail
      go_loopw [0, 6] (fun v0 v6 W => ∃ (f m : Nat) (pre : List Nat), f < 4 ∧ v6 = .int .i64 m ∧ m < 128 ^ (f + 1) ∧ pre ++ encF (f + 1) m = encP x ∧ Two W B v0 (l ++ encL (ns.take k) ++ pre) (some ⟨g, off, none⟩) n cap ns ∧ GB B w v W v0) (fun _ v6 _ => (RowKit.intOf v6).toNat)
      case atStart => exact ⟨3, x, [], by omega, rfl, by have := HH.out.1; omega, rfl, by simpa using HT.out.1, HT.out.2⟩
      case round =>
        clear HT
        obtain ⟨f, m, pre, hf, rfl, hm, he, hT, hb⟩ := hrel
        have hm28 : m < 268435456 := Nat.lt_of_lt_of_le hm (by
          have : (128 : Nat) ^ (f + 1) ≤ 128 ^ 4 := Nat.pow_le_pow_right (by decide) (by omega)
          simpa using this)
        have hpl : (l ++ encL (ns.take k) ++ pre).length ≤ 1073741824 := by
          have h1 := HH.out.2.1
          have h2 := encF_len 4 x
          have h3 : (encP x).length = pre.length + (encF (f + 1) m).length := by rw [← he, List.length_append]
          unfold encP at h3
          rw [List.length_append]
          omega
        by_cases hm1 : m < 128
        · have d1 : decide ((m : Int) ≥ 128) = false := decide_eq_false (by omega)
          have d2 : ¬ (128 : Int) ≤ (m : Int) := by omega
          have e8 : IntKind.u8.wrap (m : Int) = (m : Int) := IntWalk.u8_in _ (by omega)
          obtain ⟨v', W', hr, hT', hb'⟩ := hT.push hpl m
          have hN : Hid (Two W' B v' (l ++ encL (ns.take (k + 1))) (some ⟨g, off, none⟩) n cap ns ∧ GB B w v W' v') := ⟨by
            have e1 : encL (ns.take (k + 1)) = encL (ns.take k) ++ (pre ++ [m]) := by
              rw [HH.out.2.2.1, encL_append]
              congr 1
              rw [show encL [x] = encP x from by simp [encL], ← he, encF, if_pos hm1]
            rw [e1]
            simpa using hT', hb.trans hb'⟩
          clear hT hb hT' hb' he
          go_wp2_with (at_builtin; refine wpList_append_hr rfl _ _ 39 rfl _ _ rfl rfl hr ?_)
          exact ⟨⟨k + 1, hkn, by simp, hN.out⟩, by simp [RowKit.intOf]; omega⟩
        · have d1 : decide ((m : Int) ≥ 128) = true := decide_eq_true (by omega)
          have d2 : (128 : Int) ≤ (m : Int) := by omega
          obtain ⟨c, hc⟩ : ∃ c : Nat, 128 + m % 128 = c := ⟨_, rfl⟩
          have eb : bits .or .u8 ((m : Int) % 256) 128 = (c : Int) := by
            rw [← hc, ← bits_or_u8 m, IntKind.wrap_u8]
          obtain ⟨v', W', hr, hT', hb'⟩ := hT.push hpl c
          have hN : Hid (∃ (f' m' : Nat) (pre' : List Nat), f' < 4 ∧ ((m : Int) / 128 = (m' : Int)) ∧ m' < m ∧ m' < 128 ^ (f' + 1) ∧ pre' ++ encF (f' + 1) m' = encP x ∧ Two W' B v' (l ++ encL (ns.take k) ++ pre') (some ⟨g, off, none⟩) n cap ns ∧ GB B w v W' v') := by
            cases f with
            | zero => simp at hm; omega
            | succ f =>
              refine ⟨f, m / 128, pre ++ [c], by omega, by omega, by omega, ?_, ?_, by simpa using hT', hb.trans hb'⟩
              · rw [Nat.pow_succ] at hm
                exact Nat.div_lt_of_lt_mul (by rw [Nat.mul_comm]; exact hm)
              · rw [encF, if_neg hm1, hc] at he
                rw [← he]
                simp
          clear hT hb hT' hb' he hc
          go_wp2_with (at_builtin; refine wpList_append_hr rfl _ _ 39 rfl _ _ rfl rfl hr ?_)
          obtain ⟨f', m', pre', h1, h2, h3, h4, h5, h6, h7⟩ := hN.out
          exact ⟨⟨f', m', pre', h1, by rw [h2], h4, h5, h6, h7⟩, by simp [RowKit.intOf]; omega⟩
    · have hk2 : k = n := by omega
      subst hk2
      have ht : ns.take k = ns := List.take_of_length_le (by rw [hT.nums.len]; exact Nat.le_refl _)
      rw [ht] at hT
      have d1 : decide ((k : Int) < (k : Int)) = false := decide_eq_false (by omega)
      go_wp2_with fail
      go_ret
      exact ⟨_, rfl, hT.own, hb⟩
end Go.Proofs.YtkdhcokefnffaaaDoor
