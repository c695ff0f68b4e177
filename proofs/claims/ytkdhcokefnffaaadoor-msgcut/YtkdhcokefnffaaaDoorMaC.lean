import Derived.Test.YtkdhcokefnffaaaDoorMaB
/-! The reader's number. -/
namespace Go.Proofs.YtkdhcokefnffaaaDoor
open Go.RowKit Go.Lib Sp
set_option maxRecDepth 100000

/-- A number read: its value and how many bytes it took; the bytes end; it is written wrongly. -/
inductive NumR where
  | ok (v k : Nat)
  | cut
  | bad
def numF : Nat → Nat → Nat → List Nat → NumR
  | 0, _, _, _ => .bad
  | _ + 1, _, _, [] => .cut
  | f + 1, j, acc, b :: r => if b < 128 then (if b = 0 ∧ 0 < j then .bad else .ok (acc + b * 128 ^ j) (j + 1)) else numF f (j + 1) (acc + (b - 128) * 128 ^ j) r
def numP (l : List Nat) : NumR := numF 4 0 0 l

/-- What a number's reading leaves. -/
def numPost (w : World) (p : Nat) (a : Option Addr) (n cap : Nat) (bs : List Nat) (i : Nat) : NumR → Ending → World → Prop
  | .ok v k, e, w' => e = .returned (.int .i64 v) ∧ Rdr w' p a n cap bs (i + k) ∧ Chg (fun g => g = p) w w'
  | .cut, e, w' => e = thrown n 102 ∧ Chg (fun g => g = p) w w'
  | .bad, e, w' => e = thrown i 101 ∧ Chg (fun g => g = p) w w'
theorem bits_or_nat (x y : Nat) (hx : x < 2 ^ 62) (hy : y < 2 ^ 62) : bits .or .i64 (x : Int) (y : Int) = ((x ||| y : Nat) : Int) := by
  have h3 : x ||| y < 2 ^ 62 := Nat.or_lt_two_pow hx hy
  show IntKind.i64.wrap ((BitVec.ofInt 64 (x : Int) ||| BitVec.ofInt 64 (y : Int)).toNat : Int) = _
  have e1 : (BitVec.ofInt 64 (x : Int) ||| BitVec.ofInt 64 (y : Int)).toNat = x ||| y := by
    rw [BitVec.toNat_or, BitVec.ofInt_natCast, BitVec.ofInt_natCast, BitVec.toNat_ofNat, BitVec.toNat_ofNat, Nat.mod_eq_of_lt (by omega), Nat.mod_eq_of_lt (by omega)]
  rw [e1]
  exact IntWalk.i64_in _ (by omega)
theorem or_num (A c j : Nat) (hj : j < 4) (hA : A < 128 ^ j) (hc : c < 128) : bits .or .i64 (A : Int) (wrap64 ((c : Int) * 2 ^ (((7 * j : Nat) : Int)).toNat)) = ((A + c * 128 ^ j : Nat) : Int) ∧ A + c * 128 ^ j < 128 ^ (j + 1) := by
  have e : (128 : Nat) ^ j = 2 ^ (7 * j) := by rw [Nat.pow_mul]
  have h2 : (128 : Nat) ^ j ≤ 2097152 := by
    obtain rfl | rfl | rfl | rfl : j = 0 ∨ j = 1 ∨ j = 2 ∨ j = 3 := by omega
    all_goals decide
  have hm : c * 128 ^ j ≤ 127 * 128 ^ j := Nat.mul_le_mul_right _ (by omega)
  have e2 : (c : Int) * 2 ^ (((7 * j : Nat) : Int)).toNat = ((c * 128 ^ j : Nat) : Int) := by
    rw [Int.toNat_natCast, e]; simp
  have e3 : wrap64 ((c * 128 ^ j : Nat) : Int) = ((c * 128 ^ j : Nat) : Int) := by unfold wrap64; omega
  have hp : (128 : Nat) ^ (j + 1) = 128 * 128 ^ j := by rw [Nat.pow_succ, Nat.mul_comm]
  rw [e2, e3, bits_or_nat _ _ (by omega) (by omega)]
  refine ⟨?_, by omega⟩
  congr 1
  rw [e] at hA ⊢
  rw [← Nat.shiftLeft_eq, Nat.or_comm, ← Nat.shiftLeft_add_eq_or_of_lt hA, Nat.add_comm]

set_option maxHeartbeats 2000000 in
theorem number_any {w : World} {p n cap i : Nat} {a : Option Addr} {bs : List Nat} (h : Rdr w p a n cap bs i) :
    Calls Tryd.prog 49 #[.pointer (some ⟨p, 0, none⟩)] w (numPost w p a n cap bs i (numP (bs.drop i))) := by
  obtain ⟨c0, c1⟩ := box2 h.box
  have HH : Hid (Rdr w p a n cap bs i) := h
  clear h
  go_enter Tryd.func49, Tryd.ntmps49
  go_wp2_with fail
  go_loopw [4, 5, 6, 11] (fun v4 v5 v6 v11 wr => ∃ (j A : Nat), j ≤ 4 ∧ v11 = .int .i64 j ∧ v4 = .int .i64 A ∧ A < 128 ^ j ∧ numF (4 - j) j A (bs.drop (i + j)) = numP (bs.drop i) ∧ Rdr wr p a n cap bs (i + j) ∧ Chg (fun g => g = p) w wr) (fun _ _ _ v11 _ => 4 - (RowKit.intOf v11).toNat)
  case atStart => exact ⟨0, 0, by omega, rfl, rfl, by omega, rfl, HH.out, Chg.refl _ _⟩
  case round =>
    obtain ⟨j, A, hj, rfl, rfl, hA, hN, hR, hC⟩ := hrel
    have hle := hR.le
    rcases Nat.lt_or_ge j 4 with hj4 | hj4
    · rcases Nat.lt_or_ge (i + j) n with hn | hn
      · obtain ⟨g, off, b, rfl, hg, hb, hcs⟩ := hR.row.at (i + j) hn
        have hb256 := hR.byte b (List.mem_of_getElem? hb)
        have HT := take_ok hR 1 (by omega) (by omega)
        have hcb := hcs 0 _ rfl
        simp only [Nat.mul_one, Nat.add_zero] at hcb
        have hdr : bs.drop (i + j) = b :: bs.drop (i + j + 1) := by
          obtain ⟨h1, h2⟩ := List.getElem?_eq_some_iff.1 hb
          rw [List.drop_eq_getElem_cons h1, h2]
        have hgp : g ≠ p := hR.ne _ rfl
        have HQ : Hid (Rdr w p (some ⟨g, off, none⟩) n cap bs i ∧ A < 128 ^ j ∧ numF (4 - j) j A (b :: bs.drop (i + j + 1)) = numP (bs.drop i) ∧ Chg (fun g => g = p) w wr) := ⟨HH.out, hA, hdr ▸ hN, hC⟩
        clear hR hN hC hA hcs HH hdr c0 c1 hle hj
        obtain ⟨c, hc⟩ : ∃ c : Int, IntKind.u8.wrap (Int.tmod (b : Int) 128) = c := ⟨_, rfl⟩
        obtain ⟨s, hs⟩ : ∃ s : Int, IntKind.i64.wrap (7 * (j : Int)) = s := ⟨_, rfl⟩
        have es : s = ((7 * j : Nat) : Int) := by rw [← hs, IntWalk.i64_in _ (by omega)]; omega
        have ec : c = ((b % 128 : Nat) : Int) := by
          rw [← hc, Int.tmod_eq_emod_of_nonneg (by omega)]
          exact IntWalk.u8_in _ (by omega)
        have s0 : 0 ≤ s := by omega
        have s1 : s ≤ 64 := by omega
        have hc2 : IntKind.i64.wrap c = c := IntWalk.i64_in _ (by omega)
        obtain ⟨x, hx⟩ : ∃ x : Int, IntKind.i64.wrap (c * 2 ^ s.toNat) = x := ⟨_, rfl⟩
        obtain ⟨y, hy⟩ : ∃ y : Int, bits .or .i64 (A : Int) x = y := ⟨_, rfl⟩
        have HY : Hid (s = ((7 * j : Nat) : Int) ∧ c = ((b % 128 : Nat) : Int) ∧ IntKind.i64.wrap (c * 2 ^ s.toNat) = x ∧ bits .or .i64 (A : Int) x = y) := ⟨es, ec, hx, hy⟩
        clear es ec
        obtain ⟨q, hq⟩ : ∃ q, off + (i + j) = q := ⟨_, rfl⟩
        rw [hq] at HT hcb
        go_wp2_with fail
        refine HT.mono ?_
        rintro e w1 ⟨rfl, hR1, hC1⟩
        have hcb1 : w1.cell? ⟨g, q, none⟩ = some (.int .u8 b) := (hC1.cell (p := ⟨g, q, none⟩) hg hgp).trans hcb
        clear HT hcb
        obtain ⟨h0, hA, hN, hC⟩ := HQ.out
        obtain ⟨es, -, -, -⟩ := HY.out
        have hor := or_num A (b % 128) j hj4 hA (Nat.mod_lt _ (by omega))
        have hC2 : Chg (fun g => g = p) w w1 := hC.trans hC1
        have e42 : 4 - j = (4 - j - 1) + 1 := by omega
        rw [e42, numF] at hN
        rw [← es] at hor
        have ecast : ((b % 128 : Nat) : Int) = (b : Int) % 128 := by omega
        rw [ecast] at hor
        obtain ⟨ho1, ho2⟩ := hor
        have HP : Hid (s = ((7 * j : Nat) : Int) ∧ A < 128 ^ j ∧ Chg (fun g => g = p) w w1 ∧ Rdr w1 p (some ⟨g, off, none⟩) n cap bs (i + j + 1) ∧ A + b % 128 * 128 ^ j < 128 ^ (j + 1)) := ⟨es, hA, hC2, hR1, ho2⟩
        have HN : Hid ((if b < 128 then if b = 0 ∧ 0 < j then NumR.bad else NumR.ok (A + b * 128 ^ j) (j + 1) else numF (4 - j - 1) (j + 1) (A + (b - 128) * 128 ^ j) (bs.drop (i + j + 1))) = numP (bs.drop i)) := hN
        clear h0 hA hN hC es hC2 e42 ecast ho2 HQ HY hR1 hC1
        by_cases hb1 : b < 128
        · have d1 : decide ((b : Int) < 128) = true := decide_eq_true (by omega)
          by_cases hb0 : b = 0
          · subst hb0
            rcases Nat.eq_zero_or_pos j with hj0 | hj0
            · have d3 : decide (0 < j) = false := decide_eq_false (by omega)
              go_wp2_with fail
              refine (refuse_no _ _ _ _).mono ?_
              rintro e w2 ⟨rfl, rfl⟩
              go_wp2_with fail
              go_ret
              obtain ⟨es, hA, hC2, hR1, ho2⟩ := HP.out
              have hN := HN.out
              subst hj0
              rw [if_pos (by omega), if_neg (by omega)] at hN
              rw [← hN]
              have hA0 : A = 0 := by simpa using hA
              subst hA0
              exact ⟨rfl, hR1, hC2⟩
            · have d3 : decide (0 < j) = true := decide_eq_true (by omega)
              go_wp2_with fail
              refine (refuse_yes _ _ _ _).mono ?_
              rintro e w2 ⟨rfl, rfl⟩
              unfold thrown
              try dsimp only
              go_wp2_with fail
              obtain ⟨es, hA, hC2, hR1, ho2⟩ := HP.out
              have hN := HN.out
              rw [if_pos (by omega), if_pos ⟨trivial, hj0⟩] at hN
              refine ⟨rfl, ?_⟩
              rw [← hN]
              exact ⟨rfl, hC2⟩
          · have d2 : ((b : Int) == 0) = false := by simp; omega
            go_wp2_with fail
            refine (refuse_no _ _ _ _).mono ?_
            rintro e w2 ⟨rfl, rfl⟩
            go_wp2_with fail
            go_ret
            obtain ⟨es, hA, hC2, hR1, ho2⟩ := HP.out
            have hN := HN.out
            rw [if_pos hb1, if_neg (fun h => hb0 h.1)] at hN
            rw [← hN]
            refine ⟨?_, hR1, hC2⟩
            have e1 : b % 128 = b := by omega
            have e2 : (b : Int) % 128 = (b : Int) := by omega
            simp [e2]
        · have d1 : decide ((b : Int) < 128) = false := decide_eq_false (by omega)
          go_wp2_with fail
          refine ⟨⟨j + 1, A + b % 128 * 128 ^ j, by omega, by simp, by simp, ?_⟩, by simp [RowKit.intOf]; omega⟩
          obtain ⟨es, hA, hC2, hR1, ho2⟩ := HP.out
          have hN := HN.out
          rw [if_neg hb1] at hN
          have e1 : b % 128 = b - 128 := by omega
          rw [e1] at ho2 ⊢
          exact ⟨ho2, hN, hR1, hC2⟩
      · have hd : bs.drop (i + j) = [] := List.drop_eq_nil_of_le (by rw [hR.row.len]; exact hn)
        have HT := take_cut hR 1 (by omega)
        have e42 : 4 - j = (4 - j - 1) + 1 := by omega
        have HP : Hid (NumR.cut = numP (bs.drop i) ∧ Chg (fun g => g = p) w wr) := ⟨by rw [← hN, hd, e42]; rfl, hC⟩
        clear hR hN hC hA HH hd c0 c1 hle hj
        go_wp2_with fail
        refine HT.mono ?_
        rintro e w1 ⟨rfl, hC1⟩
        clear HT
        unfold thrown
        try dsimp only
        go_wp2_with fail
        obtain ⟨hN, hC⟩ := HP.out
        refine ⟨rfl, ?_⟩
        rw [← hN]
        exact ⟨rfl, hC.trans hC1⟩
    · have hj5 : j = 4 := by omega
      subst hj5
      have HP : Hid (NumR.bad = numP (bs.drop i) ∧ Chg (fun g => g = p) w wr) := ⟨hN, hC⟩
      clear hR hN hC hA HH c0 c1 hle hj
      go_wp2_with fail
      obtain ⟨hN, hC⟩ := HP.out
      refine ⟨rfl, ?_⟩
      rw [← hN]
      exact ⟨rfl, hC⟩
end Go.Proofs.YtkdhcokefnffaaaDoor
