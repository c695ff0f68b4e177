import Derived.Test.YthkfcocakhekaaaDoorXdC
import Derived.Test.YthkfcocakhekaaaDoorXdD
namespace Go.Proofs.YthkfcocakhekaaaDoor
open Go.RowKit Go.Lib
set_option maxRecDepth 100000
set_option maxHeartbeats 8000000 in
theorem earlierLeft_any (len i j : Int) (e : Bool) (a1 a2 a6 : Option Addr) (m1 m2 m6 cap1 cap2 cap6 : Nat) (w : World) (hB : Bar w) (hT : Txs w) :
    Calls Tryd.prog 4 #[.agg #[.int .i64 len, .slice a1 m1 cap1, .slice a2 m2 cap2, .int .i64 i, .int .i64 j, .bool e, .slice a6 m6 cap6]] w fun r w' => r = .returned (.bool true) ∧ Below w.heap.size w w' := by
  have HG : Tryd.prog.eqGuardType Tryd.prog.depth 48 = false := by kernel_rfl
  obtain ⟨n, hn⟩ : ∃ n : Nat, len % 30 = (n : Int) := ⟨(len % 30).toNat, by omega⟩
  have hn30 : n < 30 := by omega
  obtain ⟨at_, hat⟩ : ∃ k : Nat, i % ((n : Int) + 1) = (k : Int) := ⟨(i % ((n : Int) + 1)).toNat, by have := Int.emod_nonneg i (show (n : Int) + 1 ≠ 0 by omega); omega⟩
  have hatn : at_ ≤ n := by have := Int.emod_lt_of_pos i (show 0 < (n : Int) + 1 by omega); omega
  obtain ⟨ja, hja⟩ : ∃ k : Nat, j % 5 = (k : Int) := ⟨(j % 5).toNat, by omega⟩
  have hja5 : ja < 5 := by omega
  obtain ⟨z, hz⟩ : ∃ z, IntKind.i64.wrap (i + j) = z := ⟨_, rfl⟩
  obtain ⟨jb, hjb⟩ : ∃ k : Nat, z % 5 = (k : Int) := ⟨(z % 5).toNat, by omega⟩
  have hjb5 : jb < 5 := by omega
  have HW1 : Hid (∀ W, Calls Tryd.prog 9 #[.int .i64 len, .int .i64 30] W fun e w' => e = .returned (.int .i64 (n : Int)) ∧ w' = W) := fun W => by rw [← hn]; exact within_any len 30 (by omega) (by omega) W
  have HW2 : Hid (∀ W, Calls Tryd.prog 9 #[.int .i64 i, .int .i64 ((n : Int) + 1)] W fun e w' => e = .returned (.int .i64 (at_ : Int)) ∧ w' = W) := fun W => by rw [← hat]; exact within_any i _ (by omega) (by omega) W
  have HW3 : Hid (∀ W, Calls Tryd.prog 9 #[.int .i64 j, .int .i64 5] W fun e w' => e = .returned (.int .i64 (ja : Int)) ∧ w' = W) := fun W => by rw [← hja]; exact within_any j 5 (by omega) (by omega) W
  have HW4 : Hid (∀ W, Calls Tryd.prog 9 #[.int .i64 z, .int .i64 5] W fun e w' => e = .returned (.int .i64 (jb : Int)) ∧ w' = W) := fun W => by rw [← hjb]; exact within_any z 5 (by omega) (by omega) W
  have HI : Hid (∀ (c p : Int) (s : ByteArray) W, Calls Tryd.prog 16 #[.int .i64 c, .int .i64 1, .int .i64 p, .string s] W fun e w' => e = .returned (opVal ⟨c, 1, 1, p, s, [], 0, 0, false⟩ (.slice none 0 0)) ∧ Below W.heap.size W w') := fun c p s W => ins_any c 1 p s W
  obtain ⟨pb, hpb⟩ : ∃ p : Nat, at_ + (ja + 1) = p := ⟨_, rfl⟩
  obtain ⟨ta, hta⟩ : ∃ t, txt ja = t := ⟨_, rfl⟩
  obtain ⟨tb, htb⟩ : ∃ t, txt jb = t := ⟨_, rfl⟩
  have HTa : Hid (∀ W, Below w.heap.size w W → W.cell? ⟨0, ja, none⟩ = some (.string ta)) := fun W hb => by rw [← hta]; exact (hT.below hb).at ja hja5
  have HTb : Hid (∀ W, Below w.heap.size w W → W.cell? ⟨0, jb, none⟩ = some (.string tb)) := fun W hb => by rw [← htb]; exact (hT.below hb).at jb hjb5
  have e1 : IntKind.i64.wrap ((n : Int) + 1) = (n : Int) + 1 := IntWalk.i64_in _ (by omega)
  have HCa : Hid (∀ W, Calls Tryd.prog 13 #[.agg #[.int .i64 1, .int .i64 1, .int .i64 1, .int .i64 at_, .string ta, .slice none 0 0, .int .i64 0, .int .i64 0, .bool false]] W fun e w' => ∃ (a' : Option Addr) (cap' : Nat), e = .returned (.agg #[.int .i64 1, .int .i64 1, .int .i64 1, .int .i64 at_, .string ta, .slice a' 0 cap', .int .i64 0, .int .i64 0, .bool false]) ∧ cap' ≤ maxLen ∧ Below W.heap.size W w') := fun W => by rw [← hta]; exact copy0 (insV 1 1 at_ ja) rfl W
  have HCb : Hid (∀ W, Calls Tryd.prog 13 #[.agg #[.int .i64 2, .int .i64 1, .int .i64 1, .int .i64 at_, .string tb, .slice none 0 0, .int .i64 0, .int .i64 0, .bool false]] W fun e w' => ∃ (a' : Option Addr) (cap' : Nat), e = .returned (.agg #[.int .i64 2, .int .i64 1, .int .i64 1, .int .i64 at_, .string tb, .slice a' 0 cap', .int .i64 0, .int .i64 0, .bool false]) ∧ cap' ≤ maxLen ∧ Below W.heap.size W w') := fun W => by rw [← htb]; exact copy0 (insV 2 1 at_ jb) rfl W
  have HIba : Hid (∀ W (xa : Option Addr) (xc : Nat) (ya : Option Addr) (yc : Nat), Below w.heap.size w W → xc ≤ maxLen → yc ≤ maxLen → Calls Tryd.prog 17 #[.agg #[.int .i64 2, .int .i64 1, .int .i64 1, .int .i64 at_, .string tb, .slice xa 0 xc, .int .i64 0, .int .i64 0, .bool false], .agg #[.int .i64 1, .int .i64 1, .int .i64 1, .int .i64 at_, .string ta, .slice ya 0 yc, .int .i64 0, .int .i64 0, .bool false], .bool true] W fun e w' => ∃ (va : Option Addr) (vc : Nat), e = .returned (.tuple #[.agg #[.int .i64 2, .int .i64 1, .int .i64 1, .int .i64 pb, .string tb, .slice va 0 vc, .int .i64 0, .int .i64 0, .bool false], .int .i64 0]) ∧ vc ≤ maxLen ∧ Below W.heap.size W w') := fun W xa xc ya yc hb hx hy => by
    rw [← hta, ← htb]
    exact incl0 (insV 2 1 at_ jb) (insV 1 1 at_ ja) true (insV 2 1 pb jb) rfl rfl rfl (by rw [← hpb]; exact incl_behind hja5 hjb5 (by omega)) (txt_size _) (txt_size _) W (hB.below hb) hx hy
  have HIab : Hid (∀ W (xa : Option Addr) (xc : Nat) (ya : Option Addr) (yc : Nat), Below w.heap.size w W → xc ≤ maxLen → yc ≤ maxLen → Calls Tryd.prog 17 #[.agg #[.int .i64 1, .int .i64 1, .int .i64 1, .int .i64 at_, .string ta, .slice xa 0 xc, .int .i64 0, .int .i64 0, .bool false], .agg #[.int .i64 2, .int .i64 1, .int .i64 1, .int .i64 at_, .string tb, .slice ya 0 yc, .int .i64 0, .int .i64 0, .bool false], .bool false] W fun e w' => ∃ (va : Option Addr) (vc : Nat), e = .returned (.tuple #[.agg #[.int .i64 1, .int .i64 1, .int .i64 1, .int .i64 at_, .string ta, .slice va 0 vc, .int .i64 0, .int .i64 0, .bool false], .int .i64 0]) ∧ vc ≤ maxLen ∧ Below W.heap.size W w') := fun W xa xc ya yc hb hx hy => by
    rw [← hta, ← htb]
    exact incl0 (insV 1 1 at_ ja) (insV 2 1 at_ jb) false (insV 1 1 at_ ja) rfl rfl rfl (incl_ahead hja5 hjb5 (by omega)) (txt_size _) (txt_size _) W (hB.below hb) hx hy
  obtain ⟨R, hRe⟩ : ∃ R : List CellW, ((List.range n).map fun i => (((0, 0), ((i : Nat) : Int), 0) : CellW)) = R := ⟨_, rfl⟩
  have hRl : R.length = n := by rw [← hRe]; simp
  obtain ⟨XX, hXX⟩ : ∃ X : List CellW, R.take at_ ++ newL 1 1 (ja + 1) ++ newL 2 1 (jb + 1) ++ R.drop at_ = X := ⟨_, rfl⟩
  have HRow : Hid (∀ W, Calls Tryd.prog 10 #[.int .i64 (n : Int)] W fun e w' => ∃ (va : Option Addr) (vm vc : Nat), e = .returned (.slice va vm vc) ∧ Rw cellW 4 w' va vm vc R ∧ Below W.heap.size W w') := fun W => by
    refine (row_any n (by omega) W).mono ?_
    rintro e2 w1 ⟨v, rfl, ho, hb⟩
    rw [hRe] at ho
    obtain ⟨xa, xc, rfl⟩ := ho.shape
    exact ⟨_, _, _, rfl, ho.rw_ layW, hb⟩
  have HF1 : Hid (∀ W (xa : Option Addr) (xm xc g : Nat) (sa : Option Addr) (sc : Nat), sc ≤ maxLen → Rw cellW 4 W xa xm xc R → W.heap[g]? = some (Obj.cells #[.int .i64 1, .int .i64 1, .int .i64 1, .int .i64 at_, .string ta, .slice none 0 0, .int .i64 0, .int .i64 0, .bool false, .int .i64 2, .int .i64 1, .int .i64 1, .int .i64 pb, .string tb, .slice sa 0 sc, .int .i64 0, .int .i64 0, .bool false] 41) → Calls Tryd.prog 15 #[.slice xa xm xc, .slice (some ⟨g, 0, none⟩) 2 2] W fun e w' => ∃ (a' : Option Addr) (m' cap' : Nat), e = .returned (.tuple #[.slice a' m' cap', .bool true]) ∧ Rw cellW 4 w' a' m' cap' XX ∧ Below W.heap.size W w') := fun W xa xm xc g sa sc hs hr hg => by
    have dl : (doesV R (insV 1 1 at_ ja)).length = n + (ja + 1) := by rw [does_insV _ _ _ _ _ hja5, insL_length _ _ _ (by omega), newL_length, hRl]
    exact fold2 (o := insV 1 1 at_ ja) (o2 := insV 2 1 pb jb) rfl rfl (txt_size _) (txt_size _) rfl rfl (by omega) ⟨by simp only [insV]; omega, by simp only [insV]; omega⟩ ⟨by simp only [insV]; omega, by rw [dl]; simp only [insV]; omega⟩ (by omega) (by rw [← hXX, ← hpb]; exact fold_one R at_ ja jb hja5 hjb5 (by omega)) hr (Nat.zero_le _) hs (by rw [← hta, ← htb] at hg; exact hg)
  have HF2 : Hid (∀ W (xa : Option Addr) (xm xc g : Nat) (sa : Option Addr) (sc : Nat), sc ≤ maxLen → Rw cellW 4 W xa xm xc R → W.heap[g]? = some (Obj.cells #[.int .i64 2, .int .i64 1, .int .i64 1, .int .i64 at_, .string tb, .slice none 0 0, .int .i64 0, .int .i64 0, .bool false, .int .i64 1, .int .i64 1, .int .i64 1, .int .i64 at_, .string ta, .slice sa 0 sc, .int .i64 0, .int .i64 0, .bool false] 41) → Calls Tryd.prog 15 #[.slice xa xm xc, .slice (some ⟨g, 0, none⟩) 2 2] W fun e w' => ∃ (a' : Option Addr) (m' cap' : Nat), e = .returned (.tuple #[.slice a' m' cap', .bool true]) ∧ Rw cellW 4 w' a' m' cap' XX ∧ Below W.heap.size W w') := fun W xa xm xc g sa sc hs hr hg => by
    have dl : (doesV R (insV 2 1 at_ jb)).length = n + (jb + 1) := by rw [does_insV _ _ _ _ _ hjb5, insL_length _ _ _ (by omega), newL_length, hRl]
    exact fold2 (o := insV 2 1 at_ jb) (o2 := insV 1 1 at_ ja) rfl rfl (txt_size _) (txt_size _) rfl rfl (by omega) ⟨by simp only [insV]; omega, by simp only [insV]; omega⟩ ⟨by simp only [insV]; omega, by rw [dl]; simp only [insV]; omega⟩ (by omega) (by rw [← hXX]; exact fold_other R at_ ja jb hja5 hjb5 (by omega)) hr (Nat.zero_le _) hs (by rw [← hta, ← htb] at hg; exact hg)
  obtain ⟨wa, hwa⟩ : ∃ k : Nat, ja + 1 = k := ⟨_, rfl⟩
  obtain ⟨wb, hwb⟩ : ∃ k : Nat, jb + 1 = k := ⟨_, rfl⟩
  obtain ⟨tot, htt⟩ : ∃ k : Nat, n + wa + wb = k := ⟨_, rfl⟩
  rw [hwa, hwb] at hXX
  have htot : XX.length = tot := by
    rw [← hXX]
    simp only [List.length_append, List.length_take, List.length_drop, newL_length]
    omega
  have HWd : Hid (∀ (c p : Int) (t : ByteArray) W, t.size ≤ 1000 → Calls Tryd.prog 19 #[.agg #[.int .i64 c, .int .i64 1, .int .i64 1, .int .i64 p, .string t, .slice none 0 0, .int .i64 0, .int .i64 0, .bool false]] W fun e w' => e = .returned (.int .i64 ((lawW t t.size : Nat) : Int)) ∧ Below W.heap.size W w') := fun c p t W ht => lawWidth_1 (l := []) ht
  have hla : lawW ta ta.size = wa := by rw [← hta, txt_lawW _ hja5, hwa]
  have hlb : lawW tb tb.size = wb := by rw [← htb, txt_lawW _ hjb5, hwb]
  have hsa : ta.size ≤ 1000 := by rw [← hta]; have := txt_size ja; omega
  have hsb : tb.size ≤ 1000 := by rw [← htb]; have := txt_size jb; omega
  obtain ⟨sv, hsv⟩ : ∃ k : Nat, n + wa = k := ⟨_, rfl⟩
  have es1 : IntKind.i64.wrap ((n : Int) + (wa : Int)) = (sv : Int) := by rw [IntWalk.i64_in _ (by omega)]; omega
  have es2 : IntKind.i64.wrap ((sv : Int) + (wb : Int)) = (tot : Int) := by rw [IntWalk.i64_in _ (by omega)]; omega
  have HN : Hid (∀ W, Calls Tryd.prog 14 #[.int .i64 0] W fun r w' => r = .returned (.int .i64 0) ∧ W = w') := fun W => (num_any 0 W).mono fun e w' h => ⟨h.1, h.2.symm⟩
  clear hn hat hja hjb hT
  obtain ⟨W0, hW0⟩ : ∃ W0, w.alloc (Obj.cells #[.int .i64 len, .slice a1 m1 cap1, .slice a2 m2 cap2, .int .i64 i, .int .i64 j, .bool e, .slice a6 m6 cap6] 25) = W0 := ⟨_, rfl⟩
  have hX : W0.heap[w.heap.size]? = some (Obj.cells #[.int .i64 len, .slice a1 m1 cap1, .slice a2 m2 cap2, .int .i64 i, .int .i64 j, .bool e, .slice a6 m6 cap6] 25) := by rw [← hW0]; exact alloc_last _ _ _ rfl
  have hB0 : Below w.heap.size w W0 := by rw [← hW0]; exact (Below.refl w.heap.size w).alloc (Nat.le_refl _) _
  have alt : w.heap.size < W0.heap.size := (Array.getElem?_eq_some_iff.1 hX).1
  obtain ⟨k0, k1, k2, k3, k4, k5, k6⟩ := box7 hX
  have c0 := HTa.out W0 hB0
  have j1 : (ja : Int) < 5 := by omega
  have j0 : (0 : Int) ≤ (ja : Int) := by omega
  have l1 : (jb : Int) < 5 := by omega
  have l0 : (0 : Int) ≤ (jb : Int) := by omega
  go_enter Tryd.func4, Tryd.ntmps4
  go_wp2_with fail
  refine (HW1.out _).mono ?_
  rintro e2 w1 ⟨rfl, rfl⟩
  go_wp2_with fail
  refine (HW2.out _).mono ?_
  rintro e2 w2 ⟨rfl, rfl⟩
  go_wp2_with fail
  refine (HW3.out _).mono ?_
  rintro e2 w3 ⟨rfl, rfl⟩
  go_wp2_with fail
  refine (HI.out _ _ _ _).mono ?_
  rintro e2 w4 ⟨rfl, hb4⟩
  simp only [opVal]
  go_upto_region 4 with fail
  obtain ⟨W1, hW1⟩ : ∃ W1, w4.alloc (Obj.cells #[.int .i64 1, .int .i64 1, .int .i64 1, .int .i64 at_, .string ta, .slice none 0 0, .int .i64 0, .int .i64 0, .bool false] 41) = W1 := ⟨_, rfl⟩
  have hA1 : W1.heap[w4.heap.size]? = some (Obj.cells #[.int .i64 1, .int .i64 1, .int .i64 1, .int .i64 at_, .string ta, .slice none 0 0, .int .i64 0, .int .i64 0, .bool false] 41) := by rw [← hW1]; exact alloc_last _ _ _ rfl
  have h01 : Below w3.heap.size w3 W1 := by rw [← hW1]; exact hb4.trans ((Below.refl _ _).alloc (Nat.le_refl _) _ |>.mono hb4.size)
  have hX1 := (h01.block _ alt).trans hX
  have hB1 := hB0.trans (h01.mono hB0.size)
  have c1 := HTb.out W1 hB1
  clear k0 k1 k2 k3 k4 k5 k6 c0
  obtain ⟨k0, k1, k2, k3, k4, k5, k6⟩ := box7 hX1
  rw [hW1]
  clear hW1 hW0 hX hB0 h01 alt
  go_wp2_with fail
  refine (HW4.out _).mono ?_
  rintro e2 w5 ⟨rfl, rfl⟩
  go_wp2_with fail
  refine (HI.out _ _ _ _).mono ?_
  rintro e2 w6 ⟨rfl, hb6⟩
  simp only [opVal]
  go_upto_region 5 with fail
  obtain ⟨W2, hW2⟩ : ∃ W2, w6.alloc (Obj.cells #[.int .i64 2, .int .i64 1, .int .i64 1, .int .i64 at_, .string tb, .slice none 0 0, .int .i64 0, .int .i64 0, .bool false] 41) = W2 := ⟨_, rfl⟩
  rw [hW2]
  have hAA : W2.heap[w4.heap.size]? = some (Obj.cells #[.int .i64 1, .int .i64 1, .int .i64 1, .int .i64 at_, .string ta, .slice none 0 0, .int .i64 0, .int .i64 0, .bool false] 41) := by
    rw [← hW2]
    exact (Below.heap_alloc _ _ _ (by have := hb6.size; have := (Array.getElem?_eq_some_iff.1 hA1).1; omega)).trans ((hb6.block _ (Array.getElem?_eq_some_iff.1 hA1).1).trans hA1)
  have hBB : W2.heap[w6.heap.size]? = some (Obj.cells #[.int .i64 2, .int .i64 1, .int .i64 1, .int .i64 at_, .string tb, .slice none 0 0, .int .i64 0, .int .i64 0, .bool false] 41) := by rw [← hW2]; exact alloc_last _ _ _ rfl
  have h12 : Below w5.heap.size w5 W2 := by rw [← hW2]; exact hb6.trans ((Below.refl _ _).alloc (Nat.le_refl _) _ |>.mono hb6.size)
  have hB2 := hB1.trans (h12.mono hB1.size)
  clear hW2 h12 hb6 hA1 hX1 k0 k1 k2 k3 k4 k5 k6 c1 hb4 HW1 HW2 HW3 HW4 HI HTa HTb e1 j0 j1 l0 l1 hz
  generalize w4.heap.size = ga at *
  generalize w6.heap.size = gb at *
  clear hB1
  clear w6
  have alt : ga < W2.heap.size := (Array.getElem?_eq_some_iff.1 hAA).1
  have blt : gb < W2.heap.size := (Array.getElem?_eq_some_iff.1 hBB).1
  have aX := hAA
  have bX := hBB
  obtain ⟨ak0, ak1, ak2, ak3, ak4, ak5, ak6, ak7, ak8⟩ := box9 aX
  obtain ⟨bk0, bk1, bk2, bk3, bk4, bk5, bk6, bk7, bk8⟩ := box9 bX
  go_cut [7, 8] (fun v7 v8 wx => ∃ (g : Nat) (va : Option Addr) (vc : Nat), v7 = .pointer (some ⟨g, 0, none⟩) ∧ v8 = .int .i64 0 ∧ vc ≤ maxLen ∧ W2.heap.size ≤ g ∧ wx.heap[g]? = some (Obj.cells #[.int .i64 2, .int .i64 1, .int .i64 1, .int .i64 pb, .string tb, .slice va 0 vc, .int .i64 0, .int .i64 0, .bool false] 41) ∧ Below W2.heap.size W2 wx)
  case first =>
    refine earlyR5 HCa HCb HIba hB2 aX bX ?_
    intro g va vc x42 x43 x44 x45 x46 x47 x48 x49 wx hvc hg hx9 hB9
    dsimp only
    go_wp2_with fail
    go_meet
    case rel => exact ⟨g, va, vc, rfl, rfl, hvc, hg, hx9, hB9⟩
  case rest =>
    obtain ⟨W3, rfl⟩ : ∃ x, x = wc := ⟨_, rfl⟩
    obtain ⟨g7, va, vc, rfl, rfl, hvc, hg7, g7X, hb3⟩ := hcut
    have aX3 := (hb3.block _ alt).trans aX
    have bX3 := (hb3.block _ blt).trans bX
    have hB3 := hB2.trans (hb3.mono hB2.size)
    clear ak0 ak1 ak2 ak3 ak4 ak5 ak6 ak7 ak8 bk0 bk1 bk2 bk3 bk4 bk5 bk6 bk7 bk8 aX bX hAA hBB alt blt hb3 hB2 HIba
    have aX := aX3
    have bX := bX3
    clear aX3 bX3
    have alt : ga < W3.heap.size := (Array.getElem?_eq_some_iff.1 aX).1
    have blt : gb < W3.heap.size := (Array.getElem?_eq_some_iff.1 bX).1
    have g7lt : g7 < W3.heap.size := (Array.getElem?_eq_some_iff.1 g7X).1
    obtain ⟨ak0, ak1, ak2, ak3, ak4, ak5, ak6, ak7, ak8⟩ := box9 aX
    obtain ⟨bk0, bk1, bk2, bk3, bk4, bk5, bk6, bk7, bk8⟩ := box9 bX
    go_wp2_with fail
    go_cut [9, 10] (fun v9 v10 wx => ∃ (g : Nat) (ua : Option Addr) (uc : Nat), v9 = .pointer (some ⟨g, 0, none⟩) ∧ v10 = .int .i64 0 ∧ uc ≤ maxLen ∧ W3.heap.size ≤ g ∧ wx.heap[g]? = some (Obj.cells #[.int .i64 1, .int .i64 1, .int .i64 1, .int .i64 at_, .string ta, .slice ua 0 uc, .int .i64 0, .int .i64 0, .bool false] 41) ∧ Below W3.heap.size W3 wx)
    case first =>
      refine earlyR6 HCa HCb HIab hB3 aX bX ?_
      intro g ua uc x50 x51 x52 x53 x54 x55 x56 x57 wx huc hg hx9 hB9
      dsimp only
      go_wp2_with fail
      go_meet
      case rel => exact ⟨g, ua, uc, rfl, rfl, huc, hg, hx9, hB9⟩
    case rest =>
      obtain ⟨W4, rfl⟩ : ∃ x, x = wc := ⟨_, rfl⟩
      obtain ⟨g9, ua, uc, rfl, rfl, huc, hg9, g9X, hb4⟩ := hcut
      have aX4 := (hb4.block _ alt).trans aX
      have bX4 := (hb4.block _ blt).trans bX
      have g7X4 := (hb4.block _ g7lt).trans g7X
      have hB4 := hB3.trans (hb4.mono hB3.size)
      clear ak0 ak1 ak2 ak3 ak4 ak5 ak6 ak7 ak8 bk0 bk1 bk2 bk3 bk4 bk5 bk6 bk7 bk8 aX bX alt blt g7lt g7X hb4 hB3 HIab HCa HCb hg7 hg9
      go_upto_region 9 with (first | (go_at_call 14; refine (HN.out _).mono ?_; rintro e2 w' ⟨rfl, rfl⟩))
      have aX := aX4
      have bX := bX4
      have cX := g7X4
      have dX := g9X
      clear aX4 bX4 g7X4 g9X
      have alt : ga < W4.heap.size := (Array.getElem?_eq_some_iff.1 aX).1
      have blt : gb < W4.heap.size := (Array.getElem?_eq_some_iff.1 bX).1
      have clt : g7 < W4.heap.size := (Array.getElem?_eq_some_iff.1 cX).1
      have dlt : g9 < W4.heap.size := (Array.getElem?_eq_some_iff.1 dX).1
      obtain ⟨ak0, ak1, ak2, ak3, ak4, ak5, ak6, ak7, ak8⟩ := box9 aX
      obtain ⟨ck0, ck1, ck2, ck3, ck4, ck5, ck6, ck7, ck8⟩ := box9 cX
      go_cut [11, 12] (fun v11 v12 wx => ∃ (xa : Option Addr) (xm xc : Nat), v11 = .slice xa xm xc ∧ v12 = .bool true ∧ Rw cellW 4 wx xa xm xc XX ∧ Below W4.heap.size W4 wx)
      case first =>
        have hcur : Below W4.heap.size W4 W4 := Below.refl _ _
        go_region_held3 (fun W => W.cell? ⟨ga, 0, none⟩ = some (.int .i64 1) ∧ W.cell? ⟨ga, 1, none⟩ = some (.int .i64 1) ∧ W.cell? ⟨ga, 2, none⟩ = some (.int .i64 1) ∧ W.cell? ⟨ga, 3, none⟩ = some (.int .i64 at_) ∧ W.cell? ⟨ga, 4, none⟩ = some (.string ta) ∧ W.cell? ⟨ga, 5, none⟩ = some (.slice none 0 0) ∧ W.cell? ⟨ga, 6, none⟩ = some (.int .i64 0) ∧ W.cell? ⟨ga, 7, none⟩ = some (.int .i64 0) ∧ W.cell? ⟨ga, 8, none⟩ = some (.bool false) ∧ W.cell? ⟨g7, 0, none⟩ = some (.int .i64 2) ∧ W.cell? ⟨g7, 1, none⟩ = some (.int .i64 1) ∧ W.cell? ⟨g7, 2, none⟩ = some (.int .i64 1) ∧ W.cell? ⟨g7, 3, none⟩ = some (.int .i64 pb) ∧ W.cell? ⟨g7, 4, none⟩ = some (.string tb) ∧ W.cell? ⟨g7, 5, none⟩ = some (.slice va 0 vc) ∧ W.cell? ⟨g7, 6, none⟩ = some (.int .i64 0) ∧ W.cell? ⟨g7, 7, none⟩ = some (.int .i64 0) ∧ W.cell? ⟨g7, 8, none⟩ = some (.bool false)) (first | exact ⟨ak0, ak1, ak2, ak3, ak4, ak5, ak6, ak7, ak8, ck0, ck1, ck2, ck3, ck4, ck5, ck6, ck7, ck8⟩ | exact ⟨ae0, ae1, ae2, ae3, ae4, ae5, ae6, ae7, ae8, ce0, ce1, ce2, ce3, ce4, ce5, ce6, ce7, ce8⟩ | exact ⟨cell_al ak0 _, cell_al ak1 _, cell_al ak2 _, cell_al ak3 _, cell_al ak4 _, cell_al ak5 _, cell_al ak6 _, cell_al ak7 _, cell_al ak8 _, cell_al ck0 _, cell_al ck1 _, cell_al ck2 _, cell_al ck3 _, cell_al ck4 _, cell_al ck5 _, cell_al ck6 _, cell_al ck7 _, cell_al ck8 _⟩ | exact ⟨cell_al ae0 _, cell_al ae1 _, cell_al ae2 _, cell_al ae3 _, cell_al ae4 _, cell_al ae5 _, cell_al ae6 _, cell_al ae7 _, cell_al ae8 _, cell_al ce0 _, cell_al ce1 _, cell_al ce2 _, cell_al ce3 _, cell_al ce4 _, cell_al ce5 _, cell_al ce6 _, cell_al ce7 _, cell_al ce8 _⟩)
          (first
            | (go_at_call 10; refine (HRow.out _).mono ?_; rintro e2 w1 ⟨rva, rvm, rvc, rfl, hrw, hb1⟩; (first | (have hz9 : w1.heap[W4.heap.size]? = some (Obj.cells #[.int .i64 1, .int .i64 1, .int .i64 1, .int .i64 at_, .string ta, .slice none 0 0, .int .i64 0, .int .i64 0, .bool false, .int .i64 2, .int .i64 1, .int .i64 1, .int .i64 pb, .string tb, .slice va 0 vc, .int .i64 0, .int .i64 0, .bool false] 41) := (hb1.block _ (by simp)).trans (alloc_last _ (Obj.cells #[.int .i64 1, .int .i64 1, .int .i64 1, .int .i64 at_, .string ta, .slice none 0 0, .int .i64 0, .int .i64 0, .bool false, .int .i64 2, .int .i64 1, .int .i64 1, .int .i64 pb, .string tb, .slice va 0 vc, .int .i64 0, .int .i64 0, .bool false] 41) _ rfl)) | skip); have hcur : Below W4.heap.size W4 w1 := (by first | exact hcur.trans (hb1.mono hcur.size) | exact hcur.drew.trans (hb1.mono hcur.drew.size) | exact (hcur.alloc hcur.size _).trans (hb1.mono (hcur.alloc hcur.size _).size) | exact (hcur.drew.alloc hcur.drew.size _).trans (hb1.mono (hcur.drew.alloc hcur.drew.size _).size)); have ae0 := (hcur.cell (p := ⟨ga, 0, none⟩) alt).trans ak0; have ae1 := (hcur.cell (p := ⟨ga, 1, none⟩) alt).trans ak1; have ae2 := (hcur.cell (p := ⟨ga, 2, none⟩) alt).trans ak2; have ae3 := (hcur.cell (p := ⟨ga, 3, none⟩) alt).trans ak3; have ae4 := (hcur.cell (p := ⟨ga, 4, none⟩) alt).trans ak4; have ae5 := (hcur.cell (p := ⟨ga, 5, none⟩) alt).trans ak5; have ae6 := (hcur.cell (p := ⟨ga, 6, none⟩) alt).trans ak6; have ae7 := (hcur.cell (p := ⟨ga, 7, none⟩) alt).trans ak7; have ae8 := (hcur.cell (p := ⟨ga, 8, none⟩) alt).trans ak8; have ce0 := (hcur.cell (p := ⟨g7, 0, none⟩) clt).trans ck0; have ce1 := (hcur.cell (p := ⟨g7, 1, none⟩) clt).trans ck1; have ce2 := (hcur.cell (p := ⟨g7, 2, none⟩) clt).trans ck2; have ce3 := (hcur.cell (p := ⟨g7, 3, none⟩) clt).trans ck3; have ce4 := (hcur.cell (p := ⟨g7, 4, none⟩) clt).trans ck4; have ce5 := (hcur.cell (p := ⟨g7, 5, none⟩) clt).trans ck5; have ce6 := (hcur.cell (p := ⟨g7, 6, none⟩) clt).trans ck6; have ce7 := (hcur.cell (p := ⟨g7, 7, none⟩) clt).trans ck7; have ce8 := (hcur.cell (p := ⟨g7, 8, none⟩) clt).trans ck8)
            | (go_at_call 15; refine (HF1.out _ rva rvm rvc _ va vc hvc ?_ ?_).mono ?_; (first | exact hrw | exact hrw.below ((Below.refl _ _).alloc (Nat.le_refl _) _)); (first | exact hz9 | exact alloc_last _ _ _ rfl); rintro e2 w2 ⟨fa, fm, fc, rfl, hfw, hb2⟩; have hcur : Below W4.heap.size W4 w2 := (by first | exact hcur.trans (hb2.mono hcur.size) | exact hcur.drew.trans (hb2.mono hcur.drew.size) | exact (hcur.alloc hcur.size _).trans (hb2.mono (hcur.alloc hcur.size _).size) | exact (hcur.drew.alloc hcur.drew.size _).trans (hb2.mono (hcur.drew.alloc hcur.drew.size _).size)); have ae0 := (hcur.cell (p := ⟨ga, 0, none⟩) alt).trans ak0; have ae1 := (hcur.cell (p := ⟨ga, 1, none⟩) alt).trans ak1; have ae2 := (hcur.cell (p := ⟨ga, 2, none⟩) alt).trans ak2; have ae3 := (hcur.cell (p := ⟨ga, 3, none⟩) alt).trans ak3; have ae4 := (hcur.cell (p := ⟨ga, 4, none⟩) alt).trans ak4; have ae5 := (hcur.cell (p := ⟨ga, 5, none⟩) alt).trans ak5; have ae6 := (hcur.cell (p := ⟨ga, 6, none⟩) alt).trans ak6; have ae7 := (hcur.cell (p := ⟨ga, 7, none⟩) alt).trans ak7; have ae8 := (hcur.cell (p := ⟨ga, 8, none⟩) alt).trans ak8; have ce0 := (hcur.cell (p := ⟨g7, 0, none⟩) clt).trans ck0; have ce1 := (hcur.cell (p := ⟨g7, 1, none⟩) clt).trans ck1; have ce2 := (hcur.cell (p := ⟨g7, 2, none⟩) clt).trans ck2; have ce3 := (hcur.cell (p := ⟨g7, 3, none⟩) clt).trans ck3; have ce4 := (hcur.cell (p := ⟨g7, 4, none⟩) clt).trans ck4; have ce5 := (hcur.cell (p := ⟨g7, 5, none⟩) clt).trans ck5; have ce6 := (hcur.cell (p := ⟨g7, 6, none⟩) clt).trans ck6; have ce7 := (hcur.cell (p := ⟨g7, 7, none⟩) clt).trans ck7; have ce8 := (hcur.cell (p := ⟨g7, 8, none⟩) clt).trans ck8))

        all_goals
          go_wp2_with fail
          go_meet
          case rel => exact ⟨fa, fm, fc, rfl, rfl, hfw, hcur⟩

      case rest =>
        obtain ⟨W5, rfl⟩ : ∃ x, x = wc := ⟨_, rfl⟩
        obtain ⟨xa, xm, xc, rfl, rfl, hxw, hb5⟩ := hcut
        have aX5 := (hb5.block _ alt).trans aX
        have bX5 := (hb5.block _ blt).trans bX
        have dX5 := (hb5.block _ dlt).trans dX
        have hB5 := hB4.trans (hb5.mono hB4.size)
        clear ak0 ak1 ak2 ak3 ak4 ak5 ak6 ak7 ak8 ck0 ck1 ck2 ck3 ck4 ck5 ck6 ck7 ck8 aX bX cX dX alt blt clt dlt hb5 hB4 HF1
        have aX := aX5
        have bX := bX5
        have dX := dX5
        clear aX5 bX5 dX5
        have alt : ga < W5.heap.size := (Array.getElem?_eq_some_iff.1 aX).1
        have blt : gb < W5.heap.size := (Array.getElem?_eq_some_iff.1 bX).1
        have dlt : g9 < W5.heap.size := (Array.getElem?_eq_some_iff.1 dX).1
        obtain ⟨bk0, bk1, bk2, bk3, bk4, bk5, bk6, bk7, bk8⟩ := box9 bX
        obtain ⟨dk0, dk1, dk2, dk3, dk4, dk5, dk6, dk7, dk8⟩ := box9 dX
        go_wp2_with fail
        go_cut [13, 14] (fun v13 v14 wx => ∃ (ya : Option Addr) (ym yc : Nat), v13 = .slice ya ym yc ∧ v14 = .bool true ∧ Rw cellW 4 wx ya ym yc XX ∧ Below W5.heap.size W5 wx)
        case first =>
          have hcur : Below W5.heap.size W5 W5 := Below.refl _ _
          go_region_held3 (fun W => W.cell? ⟨gb, 0, none⟩ = some (.int .i64 2) ∧ W.cell? ⟨gb, 1, none⟩ = some (.int .i64 1) ∧ W.cell? ⟨gb, 2, none⟩ = some (.int .i64 1) ∧ W.cell? ⟨gb, 3, none⟩ = some (.int .i64 at_) ∧ W.cell? ⟨gb, 4, none⟩ = some (.string tb) ∧ W.cell? ⟨gb, 5, none⟩ = some (.slice none 0 0) ∧ W.cell? ⟨gb, 6, none⟩ = some (.int .i64 0) ∧ W.cell? ⟨gb, 7, none⟩ = some (.int .i64 0) ∧ W.cell? ⟨gb, 8, none⟩ = some (.bool false) ∧ W.cell? ⟨g9, 0, none⟩ = some (.int .i64 1) ∧ W.cell? ⟨g9, 1, none⟩ = some (.int .i64 1) ∧ W.cell? ⟨g9, 2, none⟩ = some (.int .i64 1) ∧ W.cell? ⟨g9, 3, none⟩ = some (.int .i64 at_) ∧ W.cell? ⟨g9, 4, none⟩ = some (.string ta) ∧ W.cell? ⟨g9, 5, none⟩ = some (.slice ua 0 uc) ∧ W.cell? ⟨g9, 6, none⟩ = some (.int .i64 0) ∧ W.cell? ⟨g9, 7, none⟩ = some (.int .i64 0) ∧ W.cell? ⟨g9, 8, none⟩ = some (.bool false)) (first | exact ⟨bk0, bk1, bk2, bk3, bk4, bk5, bk6, bk7, bk8, dk0, dk1, dk2, dk3, dk4, dk5, dk6, dk7, dk8⟩ | exact ⟨be0, be1, be2, be3, be4, be5, be6, be7, be8, de0, de1, de2, de3, de4, de5, de6, de7, de8⟩ | exact ⟨cell_al bk0 _, cell_al bk1 _, cell_al bk2 _, cell_al bk3 _, cell_al bk4 _, cell_al bk5 _, cell_al bk6 _, cell_al bk7 _, cell_al bk8 _, cell_al dk0 _, cell_al dk1 _, cell_al dk2 _, cell_al dk3 _, cell_al dk4 _, cell_al dk5 _, cell_al dk6 _, cell_al dk7 _, cell_al dk8 _⟩ | exact ⟨cell_al be0 _, cell_al be1 _, cell_al be2 _, cell_al be3 _, cell_al be4 _, cell_al be5 _, cell_al be6 _, cell_al be7 _, cell_al be8 _, cell_al de0 _, cell_al de1 _, cell_al de2 _, cell_al de3 _, cell_al de4 _, cell_al de5 _, cell_al de6 _, cell_al de7 _, cell_al de8 _⟩)
            (first
              | (go_at_call 10; refine (HRow.out _).mono ?_; rintro e2 w1 ⟨rva, rvm, rvc, rfl, hrw, hb1⟩; (first | (have hz9 : w1.heap[W5.heap.size]? = some (Obj.cells #[.int .i64 2, .int .i64 1, .int .i64 1, .int .i64 at_, .string tb, .slice none 0 0, .int .i64 0, .int .i64 0, .bool false, .int .i64 1, .int .i64 1, .int .i64 1, .int .i64 at_, .string ta, .slice ua 0 uc, .int .i64 0, .int .i64 0, .bool false] 41) := (hb1.block _ (by simp)).trans (alloc_last _ (Obj.cells #[.int .i64 2, .int .i64 1, .int .i64 1, .int .i64 at_, .string tb, .slice none 0 0, .int .i64 0, .int .i64 0, .bool false, .int .i64 1, .int .i64 1, .int .i64 1, .int .i64 at_, .string ta, .slice ua 0 uc, .int .i64 0, .int .i64 0, .bool false] 41) _ rfl)) | skip); have hcur : Below W5.heap.size W5 w1 := (by first | exact hcur.trans (hb1.mono hcur.size) | exact hcur.drew.trans (hb1.mono hcur.drew.size) | exact (hcur.alloc hcur.size _).trans (hb1.mono (hcur.alloc hcur.size _).size) | exact (hcur.drew.alloc hcur.drew.size _).trans (hb1.mono (hcur.drew.alloc hcur.drew.size _).size)); have be0 := (hcur.cell (p := ⟨gb, 0, none⟩) blt).trans bk0; have be1 := (hcur.cell (p := ⟨gb, 1, none⟩) blt).trans bk1; have be2 := (hcur.cell (p := ⟨gb, 2, none⟩) blt).trans bk2; have be3 := (hcur.cell (p := ⟨gb, 3, none⟩) blt).trans bk3; have be4 := (hcur.cell (p := ⟨gb, 4, none⟩) blt).trans bk4; have be5 := (hcur.cell (p := ⟨gb, 5, none⟩) blt).trans bk5; have be6 := (hcur.cell (p := ⟨gb, 6, none⟩) blt).trans bk6; have be7 := (hcur.cell (p := ⟨gb, 7, none⟩) blt).trans bk7; have be8 := (hcur.cell (p := ⟨gb, 8, none⟩) blt).trans bk8; have de0 := (hcur.cell (p := ⟨g9, 0, none⟩) dlt).trans dk0; have de1 := (hcur.cell (p := ⟨g9, 1, none⟩) dlt).trans dk1; have de2 := (hcur.cell (p := ⟨g9, 2, none⟩) dlt).trans dk2; have de3 := (hcur.cell (p := ⟨g9, 3, none⟩) dlt).trans dk3; have de4 := (hcur.cell (p := ⟨g9, 4, none⟩) dlt).trans dk4; have de5 := (hcur.cell (p := ⟨g9, 5, none⟩) dlt).trans dk5; have de6 := (hcur.cell (p := ⟨g9, 6, none⟩) dlt).trans dk6; have de7 := (hcur.cell (p := ⟨g9, 7, none⟩) dlt).trans dk7; have de8 := (hcur.cell (p := ⟨g9, 8, none⟩) dlt).trans dk8)
              | (go_at_call 15; refine (HF2.out _ rva rvm rvc _ ua uc huc ?_ ?_).mono ?_; (first | exact hrw | exact hrw.below ((Below.refl _ _).alloc (Nat.le_refl _) _)); (first | exact hz9 | exact alloc_last _ _ _ rfl); rintro e2 w2 ⟨fa, fm, fc, rfl, hfw, hb2⟩; have hcur : Below W5.heap.size W5 w2 := (by first | exact hcur.trans (hb2.mono hcur.size) | exact hcur.drew.trans (hb2.mono hcur.drew.size) | exact (hcur.alloc hcur.size _).trans (hb2.mono (hcur.alloc hcur.size _).size) | exact (hcur.drew.alloc hcur.drew.size _).trans (hb2.mono (hcur.drew.alloc hcur.drew.size _).size)); have be0 := (hcur.cell (p := ⟨gb, 0, none⟩) blt).trans bk0; have be1 := (hcur.cell (p := ⟨gb, 1, none⟩) blt).trans bk1; have be2 := (hcur.cell (p := ⟨gb, 2, none⟩) blt).trans bk2; have be3 := (hcur.cell (p := ⟨gb, 3, none⟩) blt).trans bk3; have be4 := (hcur.cell (p := ⟨gb, 4, none⟩) blt).trans bk4; have be5 := (hcur.cell (p := ⟨gb, 5, none⟩) blt).trans bk5; have be6 := (hcur.cell (p := ⟨gb, 6, none⟩) blt).trans bk6; have be7 := (hcur.cell (p := ⟨gb, 7, none⟩) blt).trans bk7; have be8 := (hcur.cell (p := ⟨gb, 8, none⟩) blt).trans bk8; have de0 := (hcur.cell (p := ⟨g9, 0, none⟩) dlt).trans dk0; have de1 := (hcur.cell (p := ⟨g9, 1, none⟩) dlt).trans dk1; have de2 := (hcur.cell (p := ⟨g9, 2, none⟩) dlt).trans dk2; have de3 := (hcur.cell (p := ⟨g9, 3, none⟩) dlt).trans dk3; have de4 := (hcur.cell (p := ⟨g9, 4, none⟩) dlt).trans dk4; have de5 := (hcur.cell (p := ⟨g9, 5, none⟩) dlt).trans dk5; have de6 := (hcur.cell (p := ⟨g9, 6, none⟩) dlt).trans dk6; have de7 := (hcur.cell (p := ⟨g9, 7, none⟩) dlt).trans dk7; have de8 := (hcur.cell (p := ⟨g9, 8, none⟩) dlt).trans dk8))

          all_goals
            go_wp2_with fail
            go_meet
            case rel => exact ⟨fa, fm, fc, rfl, rfl, hfw, hcur⟩

        case rest =>
          obtain ⟨W6, rfl⟩ : ∃ x, x = wc := ⟨_, rfl⟩
          obtain ⟨ya, ym, yc, rfl, rfl, hyw, hb6⟩ := hcut
          have aX6 := (hb6.block _ alt).trans aX
          have bX6 := (hb6.block _ blt).trans bX
          have hxw6 := hxw.below hb6
          have hB6 := hB5.trans (hb6.mono hB5.size)
          clear bk0 bk1 bk2 bk3 bk4 bk5 bk6 bk7 bk8 dk0 dk1 dk2 dk3 dk4 dk5 dk6 dk7 dk8 aX bX dX alt blt dlt hb6 hB5 HF2 HRow hxw
          have aX := aX6
          have bX := bX6
          clear aX6 bX6
          have alt : ga < W6.heap.size := (Array.getElem?_eq_some_iff.1 aX).1
          have blt : gb < W6.heap.size := (Array.getElem?_eq_some_iff.1 bX).1
          have HX6 : Hid (Rw cellW 4 W6 xa xm xc XX) := hxw6
          have HEq : Hid (∀ W, Below W6.heap.size W6 W → Calls Tryd.prog 18 #[.slice xa xm xc, .slice ya ym yc] W fun e w' => e = .returned (.bool true) ∧ Below W.heap.size W w') := fun W hb => by
            have := equal_any (hxw6.below hb) (hyw.below hb)
            rw [decide_eq_true rfl] at this
            exact this
          obtain rfl : tot = xm := by rw [← htot, ← hxw6.len]
          clear hxw6 hyw
          obtain ⟨ak0, ak1, ak2, ak3, ak4, ak5, ak6, ak7, ak8⟩ := box9 aX
          obtain ⟨bk0, bk1, bk2, bk3, bk4, bk5, bk6, bk7, bk8⟩ := box9 bX
          go_upto_region 11 with fail
          go_cut [107] (fun v wx => v = .bool false ∧ Below W6.heap.size W6 wx)
          case first =>
            have hcur : Below W6.heap.size W6 W6 := Below.refl _ _
            go_region_held3 (fun W => W.cell? ⟨ga, 0, none⟩ = some (.int .i64 1) ∧ W.cell? ⟨ga, 1, none⟩ = some (.int .i64 1) ∧ W.cell? ⟨ga, 2, none⟩ = some (.int .i64 1) ∧ W.cell? ⟨ga, 3, none⟩ = some (.int .i64 at_) ∧ W.cell? ⟨ga, 4, none⟩ = some (.string ta) ∧ W.cell? ⟨ga, 5, none⟩ = some (.slice none 0 0) ∧ W.cell? ⟨ga, 6, none⟩ = some (.int .i64 0) ∧ W.cell? ⟨ga, 7, none⟩ = some (.int .i64 0) ∧ W.cell? ⟨ga, 8, none⟩ = some (.bool false) ∧ W.cell? ⟨gb, 0, none⟩ = some (.int .i64 2) ∧ W.cell? ⟨gb, 1, none⟩ = some (.int .i64 1) ∧ W.cell? ⟨gb, 2, none⟩ = some (.int .i64 1) ∧ W.cell? ⟨gb, 3, none⟩ = some (.int .i64 at_) ∧ W.cell? ⟨gb, 4, none⟩ = some (.string tb) ∧ W.cell? ⟨gb, 5, none⟩ = some (.slice none 0 0) ∧ W.cell? ⟨gb, 6, none⟩ = some (.int .i64 0) ∧ W.cell? ⟨gb, 7, none⟩ = some (.int .i64 0) ∧ W.cell? ⟨gb, 8, none⟩ = some (.bool false)) (first | exact ⟨ak0, ak1, ak2, ak3, ak4, ak5, ak6, ak7, ak8, bk0, bk1, bk2, bk3, bk4, bk5, bk6, bk7, bk8⟩ | exact ⟨ae0, ae1, ae2, ae3, ae4, ae5, ae6, ae7, ae8, be0, be1, be2, be3, be4, be5, be6, be7, be8⟩)
              (first
                | (go_at_call 18; refine (HEq.out _ ?_).mono ?_; (first | exact hcur | exact hcur.drew); rintro e2 w1 ⟨rfl, hb1⟩; have hcur : Below W6.heap.size W6 w1 := (by first | exact hcur.trans (hb1.mono hcur.size) | exact hcur.drew.trans (hb1.mono hcur.size)); have ae0 := (hcur.cell (p := ⟨ga, 0, none⟩) alt).trans ak0; have ae1 := (hcur.cell (p := ⟨ga, 1, none⟩) alt).trans ak1; have ae2 := (hcur.cell (p := ⟨ga, 2, none⟩) alt).trans ak2; have ae3 := (hcur.cell (p := ⟨ga, 3, none⟩) alt).trans ak3; have ae4 := (hcur.cell (p := ⟨ga, 4, none⟩) alt).trans ak4; have ae5 := (hcur.cell (p := ⟨ga, 5, none⟩) alt).trans ak5; have ae6 := (hcur.cell (p := ⟨ga, 6, none⟩) alt).trans ak6; have ae7 := (hcur.cell (p := ⟨ga, 7, none⟩) alt).trans ak7; have ae8 := (hcur.cell (p := ⟨ga, 8, none⟩) alt).trans ak8; have be0 := (hcur.cell (p := ⟨gb, 0, none⟩) blt).trans bk0; have be1 := (hcur.cell (p := ⟨gb, 1, none⟩) blt).trans bk1; have be2 := (hcur.cell (p := ⟨gb, 2, none⟩) blt).trans bk2; have be3 := (hcur.cell (p := ⟨gb, 3, none⟩) blt).trans bk3; have be4 := (hcur.cell (p := ⟨gb, 4, none⟩) blt).trans bk4; have be5 := (hcur.cell (p := ⟨gb, 5, none⟩) blt).trans bk5; have be6 := (hcur.cell (p := ⟨gb, 6, none⟩) blt).trans bk6; have be7 := (hcur.cell (p := ⟨gb, 7, none⟩) blt).trans bk7; have be8 := (hcur.cell (p := ⟨gb, 8, none⟩) blt).trans bk8)
                | (go_at_call 19; refine (HWd.out _ _ _ _ ?_).mono ?_; (first | exact hsa | exact hsb); rintro e2 w1 ⟨rfl, hb1⟩; have hcur : Below W6.heap.size W6 w1 := (by first | exact hcur.trans (hb1.mono hcur.size) | exact hcur.drew.trans (hb1.mono hcur.size)); have ae0 := (hcur.cell (p := ⟨ga, 0, none⟩) alt).trans ak0; have ae1 := (hcur.cell (p := ⟨ga, 1, none⟩) alt).trans ak1; have ae2 := (hcur.cell (p := ⟨ga, 2, none⟩) alt).trans ak2; have ae3 := (hcur.cell (p := ⟨ga, 3, none⟩) alt).trans ak3; have ae4 := (hcur.cell (p := ⟨ga, 4, none⟩) alt).trans ak4; have ae5 := (hcur.cell (p := ⟨ga, 5, none⟩) alt).trans ak5; have ae6 := (hcur.cell (p := ⟨ga, 6, none⟩) alt).trans ak6; have ae7 := (hcur.cell (p := ⟨ga, 7, none⟩) alt).trans ak7; have ae8 := (hcur.cell (p := ⟨ga, 8, none⟩) alt).trans ak8; have be0 := (hcur.cell (p := ⟨gb, 0, none⟩) blt).trans bk0; have be1 := (hcur.cell (p := ⟨gb, 1, none⟩) blt).trans bk1; have be2 := (hcur.cell (p := ⟨gb, 2, none⟩) blt).trans bk2; have be3 := (hcur.cell (p := ⟨gb, 3, none⟩) blt).trans bk3; have be4 := (hcur.cell (p := ⟨gb, 4, none⟩) blt).trans bk4; have be5 := (hcur.cell (p := ⟨gb, 5, none⟩) blt).trans bk5; have be6 := (hcur.cell (p := ⟨gb, 6, none⟩) blt).trans bk6; have be7 := (hcur.cell (p := ⟨gb, 7, none⟩) blt).trans bk7; have be8 := (hcur.cell (p := ⟨gb, 8, none⟩) blt).trans bk8))

            all_goals
              go_wp2_with fail
              go_meet
              case rel => exact ⟨rfl, hcur⟩
          case rest =>
            obtain ⟨W7, rfl⟩ : ∃ x, x = wc := ⟨_, rfl⟩
            obtain ⟨rfl, hb7⟩ := hcut
            have HX7 : Hid (Rw cellW 4 W7 xa tot xc XX) := HX6.out.below hb7
            have aX7 := (hb7.block _ alt).trans aX
            have bX7 := (hb7.block _ blt).trans bX
            have hB7 := hB6.trans (hb7.mono hB6.size)
            clear ak0 ak1 ak2 ak3 ak4 ak5 ak6 ak7 ak8 bk0 bk1 bk2 bk3 bk4 bk5 bk6 bk7 bk8 aX bX alt blt HX6 HEq hb7 hB6 HN es1 es2
            go_wp2_with fail
            go_loopw [15, 16, 116, 134, 151] (fun v15 v16 v116 v134 v151 W => ∃ q : Nat, q ≤ tot ∧ v15 = .int .i64 (q : Int) ∧ Below W7.heap.size W7 W) (fun v15 _ _ _ _ _ => tot - (RowKit.intOf v15).toNat)
            case atStart => exact ⟨0, Nat.zero_le _, rfl, Below.refl _ _⟩
            case round =>
              obtain ⟨q, hq, rfl, hb⟩ := hrel
              by_cases hlt : q < tot
              · have q0 : (q : Int) < (tot : Int) := by omega
                go_upto_region 17 with fail
                obtain ⟨bw, hbw⟩ : ∃ k, wr.heap.size = k := ⟨_, rfl⟩
                obtain ⟨W8, hW8⟩ : ∃ W8, wr.alloc (Obj.cells #[.int .i64 0, .int .i64 0, .int .i64 q, .int .i64 0] 48) = W8 := ⟨_, rfl⟩
                have hG : W8.heap[bw]? = some (Obj.cells #[.int .i64 0, .int .i64 0, .int .i64 q, .int .i64 0] 48) := by rw [← hW8, ← hbw]; exact alloc_last _ _ _ rfl
                have hb8 : Below W7.heap.size W7 W8 := by rw [← hW8]; exact hb.alloc hb.size _
                have hbw7 : W7.heap.size ≤ bw := by rw [← hbw]; exact hb.size
                have aX := (hb8.block _ (Array.getElem?_eq_some_iff.1 aX7).1).trans aX7
                have bX := (hb8.block _ (Array.getElem?_eq_some_iff.1 bX7).1).trans bX7
                have alt : ga < W8.heap.size := (Array.getElem?_eq_some_iff.1 aX).1
                have blt : gb < W8.heap.size := (Array.getElem?_eq_some_iff.1 bX).1
                have bwlt : bw < W8.heap.size := (Array.getElem?_eq_some_iff.1 hG).1
                have nga : ga ≠ bw := by have := (Array.getElem?_eq_some_iff.1 aX7).1; omega
                have ngb : gb ≠ bw := by have := (Array.getElem?_eq_some_iff.1 bX7).1; omega
                obtain ⟨gx, ox, xv, rfl, hgx, hxv, hxc⟩ := HX7.out.at q hlt
                have hxe := early_get n at_ wa wb hatn q
                rw [hRe, hXX, hxv] at hxe
                have HXC : Hid (∀ W, Below W7.heap.size W7 W → ∀ i v, (cellW xv)[i]? = some v → W.cell? ⟨gx, ox + q * 4 + i, none⟩ = some v) := fun W hW i v hv => (hW.cell (p := ⟨gx, ox + q * 4 + i, none⟩) hgx).trans (hxc i v hv)
                obtain ⟨ak0, ak1, ak2, ak3, ak4, ak5, ak6, ak7, ak8⟩ := box9 aX
                obtain ⟨bk0, bk1, bk2, bk3, bk4, bk5, bk6, bk7, bk8⟩ := box9 bX
                obtain ⟨av, hav⟩ : ∃ k : Nat, at_ + wa = k := ⟨_, rfl⟩
                obtain ⟨bv, hbv⟩ : ∃ k : Nat, av + wb = k := ⟨_, rfl⟩
                have et1 : IntKind.i64.wrap ((at_ : Int) + (wa : Int)) = (av : Int) := by rw [IntWalk.i64_in _ (by omega)]; omega
                have et2 : IntKind.i64.wrap ((av : Int) + (wb : Int)) = (bv : Int) := by rw [IntWalk.i64_in _ (by omega)]; omega
                clear hxc hgx hxv
                rw [hW8, hbw]
                have hcur : Below W8.heap.size W8 W8 := Below.refl _ _
                clear hW8 hbw hb
                go_region_held3 (fun W => W.cell? ⟨ga, 0, none⟩ = some (.int .i64 1) ∧ W.cell? ⟨ga, 1, none⟩ = some (.int .i64 1) ∧ W.cell? ⟨ga, 2, none⟩ = some (.int .i64 1) ∧ W.cell? ⟨ga, 3, none⟩ = some (.int .i64 at_) ∧ W.cell? ⟨ga, 4, none⟩ = some (.string ta) ∧ W.cell? ⟨ga, 5, none⟩ = some (.slice none 0 0) ∧ W.cell? ⟨ga, 6, none⟩ = some (.int .i64 0) ∧ W.cell? ⟨ga, 7, none⟩ = some (.int .i64 0) ∧ W.cell? ⟨ga, 8, none⟩ = some (.bool false) ∧ W.cell? ⟨gb, 0, none⟩ = some (.int .i64 2) ∧ W.cell? ⟨gb, 1, none⟩ = some (.int .i64 1) ∧ W.cell? ⟨gb, 2, none⟩ = some (.int .i64 1) ∧ W.cell? ⟨gb, 3, none⟩ = some (.int .i64 at_) ∧ W.cell? ⟨gb, 4, none⟩ = some (.string tb) ∧ W.cell? ⟨gb, 5, none⟩ = some (.slice none 0 0) ∧ W.cell? ⟨gb, 6, none⟩ = some (.int .i64 0) ∧ W.cell? ⟨gb, 7, none⟩ = some (.int .i64 0) ∧ W.cell? ⟨gb, 8, none⟩ = some (.bool false)) (first | exact ⟨ak0, ak1, ak2, ak3, ak4, ak5, ak6, ak7, ak8, bk0, bk1, bk2, bk3, bk4, bk5, bk6, bk7, bk8⟩ | exact ⟨ae0, ae1, ae2, ae3, ae4, ae5, ae6, ae7, ae8, be0, be1, be2, be3, be4, be5, be6, be7, be8⟩)
                  (first
                    | (go_at_call 19; refine (HWd.out _ _ _ _ ?_).mono ?_; (first | exact hsa | exact hsb); rintro e2 w1 ⟨rfl, hb1⟩; have hcur : Below W8.heap.size W8 w1 := (by first | exact hcur.trans (hb1.mono hcur.size) | exact hcur.drew.trans (hb1.mono hcur.size)); have ae0 := (hcur.cell (p := ⟨ga, 0, none⟩) alt).trans ak0; have ae1 := (hcur.cell (p := ⟨ga, 1, none⟩) alt).trans ak1; have ae2 := (hcur.cell (p := ⟨ga, 2, none⟩) alt).trans ak2; have ae3 := (hcur.cell (p := ⟨ga, 3, none⟩) alt).trans ak3; have ae4 := (hcur.cell (p := ⟨ga, 4, none⟩) alt).trans ak4; have ae5 := (hcur.cell (p := ⟨ga, 5, none⟩) alt).trans ak5; have ae6 := (hcur.cell (p := ⟨ga, 6, none⟩) alt).trans ak6; have ae7 := (hcur.cell (p := ⟨ga, 7, none⟩) alt).trans ak7; have ae8 := (hcur.cell (p := ⟨ga, 8, none⟩) alt).trans ak8; have be0 := (hcur.cell (p := ⟨gb, 0, none⟩) blt).trans bk0; have be1 := (hcur.cell (p := ⟨gb, 1, none⟩) blt).trans bk1; have be2 := (hcur.cell (p := ⟨gb, 2, none⟩) blt).trans bk2; have be3 := (hcur.cell (p := ⟨gb, 3, none⟩) blt).trans bk3; have be4 := (hcur.cell (p := ⟨gb, 4, none⟩) blt).trans bk4; have be5 := (hcur.cell (p := ⟨gb, 5, none⟩) blt).trans bk5; have be6 := (hcur.cell (p := ⟨gb, 6, none⟩) blt).trans bk6; have be7 := (hcur.cell (p := ⟨gb, 7, none⟩) blt).trans bk7; have be8 := (hcur.cell (p := ⟨gb, 8, none⟩) blt).trans bk8))

                all_goals
                  obtain ⟨W10, rfl⟩ : ∃ x, x = w1 := ⟨_, rfl⟩
                  have hb10 := hb8.trans (hcur.mono hb8.size)
                  have aX10 := (hcur.block _ alt).trans aX
                  have bX10 := (hcur.block _ blt).trans bX
                  have hG10 := (hcur.block _ bwlt).trans hG
                  clear ak0 ak1 ak2 ak3 ak4 ak5 ak6 ak7 ak8 bk0 bk1 bk2 bk3 bk4 bk5 bk6 bk7 bk8 ae0 ae1 ae2 ae3 ae4 ae5 ae6 ae7 ae8 be0 be1 be2 be3 be4 be5 be6 be7 be8 aX bX alt blt hcur hG hb8 bwlt
                  have aX := aX10
                  have bX := bX10
                  have hG := hG10
                  clear aX10 bX10 hG10
                  have alt : ga < W10.heap.size := (Array.getElem?_eq_some_iff.1 aX).1
                  have blt : gb < W10.heap.size := (Array.getElem?_eq_some_iff.1 bX).1
                  have bwlt : bw < W10.heap.size := (Array.getElem?_eq_some_iff.1 hG).1
                  obtain ⟨ak0, ak1, ak2, ak3, ak4, ak5, ak6, ak7, ak8⟩ := box9 aX
                  obtain ⟨bk0, bk1, bk2, bk3, bk4, bk5, bk6, bk7, bk8⟩ := box9 bX
                  by_cases h1 : bv ≤ q
                  · obtain ⟨k1, hk1⟩ : ∃ k : Nat, q - wa = k := ⟨_, rfl⟩
                    obtain ⟨kq, hkq⟩ : ∃ k : Nat, k1 - wb = k := ⟨_, rfl⟩
                    have ev1 : IntKind.i64.wrap ((q : Int) - (wa : Int)) = (k1 : Int) := by rw [IntWalk.i64_in _ (by omega)]; omega
                    have ev2 : IntKind.i64.wrap ((k1 : Int) - (wb : Int)) = (kq : Int) := by rw [IntWalk.i64_in _ (by omega)]; omega
                    have t1 : ((bv : Int) ≤ (q : Int)) := by omega
                    rw [if_neg (by omega), if_neg (by omega), if_neg (by omega), if_pos (by omega), hk1, hkq] at hxe
                    cases hxe
                    go_wp2_with fail
                    have hcur : Below W10.heap.size W10 W10 := Below.refl _ _
                    go_region_held3 (fun W => W.cell? ⟨ga, 0, none⟩ = some (.int .i64 1) ∧ W.cell? ⟨ga, 1, none⟩ = some (.int .i64 1) ∧ W.cell? ⟨ga, 2, none⟩ = some (.int .i64 1) ∧ W.cell? ⟨ga, 3, none⟩ = some (.int .i64 at_) ∧ W.cell? ⟨ga, 4, none⟩ = some (.string ta) ∧ W.cell? ⟨ga, 5, none⟩ = some (.slice none 0 0) ∧ W.cell? ⟨ga, 6, none⟩ = some (.int .i64 0) ∧ W.cell? ⟨ga, 7, none⟩ = some (.int .i64 0) ∧ W.cell? ⟨ga, 8, none⟩ = some (.bool false) ∧ W.cell? ⟨gb, 0, none⟩ = some (.int .i64 2) ∧ W.cell? ⟨gb, 1, none⟩ = some (.int .i64 1) ∧ W.cell? ⟨gb, 2, none⟩ = some (.int .i64 1) ∧ W.cell? ⟨gb, 3, none⟩ = some (.int .i64 at_) ∧ W.cell? ⟨gb, 4, none⟩ = some (.string tb) ∧ W.cell? ⟨gb, 5, none⟩ = some (.slice none 0 0) ∧ W.cell? ⟨gb, 6, none⟩ = some (.int .i64 0) ∧ W.cell? ⟨gb, 7, none⟩ = some (.int .i64 0) ∧ W.cell? ⟨gb, 8, none⟩ = some (.bool false)) (first | exact ⟨ax0, ax1, ax2, ax3, ax4, ax5, ax6, ax7, ax8, bx0, bx1, bx2, bx3, bx4, bx5, bx6, bx7, bx8⟩ | exact ⟨ak0, ak1, ak2, ak3, ak4, ak5, ak6, ak7, ak8, bk0, bk1, bk2, bk3, bk4, bk5, bk6, bk7, bk8⟩ | exact ⟨ae0, ae1, ae2, ae3, ae4, ae5, ae6, ae7, ae8, be0, be1, be2, be3, be4, be5, be6, be7, be8⟩)
                      (first
                        | (go_at_call 19; refine (HWd.out _ _ _ _ ?_).mono ?_; (first | exact hsa | exact hsb); rintro e2 w1 ⟨rfl, hb1⟩; have hcur : Below W10.heap.size W10 w1 := (by first | exact hcur.trans (hb1.mono hcur.size) | exact hcur.drew.trans (hb1.mono hcur.size)); have ae0 := (hcur.cell (p := ⟨ga, 0, none⟩) alt).trans ak0; have ae1 := (hcur.cell (p := ⟨ga, 1, none⟩) alt).trans ak1; have ae2 := (hcur.cell (p := ⟨ga, 2, none⟩) alt).trans ak2; have ae3 := (hcur.cell (p := ⟨ga, 3, none⟩) alt).trans ak3; have ae4 := (hcur.cell (p := ⟨ga, 4, none⟩) alt).trans ak4; have ae5 := (hcur.cell (p := ⟨ga, 5, none⟩) alt).trans ak5; have ae6 := (hcur.cell (p := ⟨ga, 6, none⟩) alt).trans ak6; have ae7 := (hcur.cell (p := ⟨ga, 7, none⟩) alt).trans ak7; have ae8 := (hcur.cell (p := ⟨ga, 8, none⟩) alt).trans ak8; have be0 := (hcur.cell (p := ⟨gb, 0, none⟩) blt).trans bk0; have be1 := (hcur.cell (p := ⟨gb, 1, none⟩) blt).trans bk1; have be2 := (hcur.cell (p := ⟨gb, 2, none⟩) blt).trans bk2; have be3 := (hcur.cell (p := ⟨gb, 3, none⟩) blt).trans bk3; have be4 := (hcur.cell (p := ⟨gb, 4, none⟩) blt).trans bk4; have be5 := (hcur.cell (p := ⟨gb, 5, none⟩) blt).trans bk5; have be6 := (hcur.cell (p := ⟨gb, 6, none⟩) blt).trans bk6; have be7 := (hcur.cell (p := ⟨gb, 7, none⟩) blt).trans bk7; have be8 := (hcur.cell (p := ⟨gb, 8, none⟩) blt).trans bk8; have aX1 := (hcur.block _ alt).trans aX; have bX1 := (hcur.block _ blt).trans bX; have hG1 := (hcur.block _ bwlt).trans hG; have hs9 := set4k hG1 (.int .i64 (kq : Int)); obtain ⟨W9, e9, hx9, hK9, hBl⟩ := hs9; obtain ⟨d0, d1, d2, d3⟩ := box4 hG1; obtain ⟨dz0, dz1, dz2, dz3⟩ := wr4 hG1; obtain ⟨ax0, ax1, ax2, ax3, ax4, ax5, ax6, ax7, ax8⟩ := box9 (hK9.block aX1 nga); obtain ⟨bx0, bx1, bx2, bx3, bx4, bx5, bx6, bx7, bx8⟩ := box9 (hK9.block bX1 ngb)))

                    all_goals
                      have hbf := hBl _ _ (hb10.trans (hcur.mono hb10.size)) hbw7
                      clear ak0 ak1 ak2 ak3 ak4 ak5 ak6 ak7 ak8 bk0 bk1 bk2 bk3 bk4 bk5 bk6 bk7 bk8 ae0 ae1 ae2 ae3 ae4 ae5 ae6 ae7 ae8 be0 be1 be2 be3 be4 be5 be6 be7 be8 ax0 ax1 ax2 ax3 ax4 ax5 ax6 ax7 ax8 bx0 bx1 bx2 bx3 bx4 bx5 bx6 bx7 bx8 d0 d1 d2 d3 dz0 dz1 dz2 dz3
                      have x0 := HXC.out W9 hbf 0 _ rfl
                      have x1 := HXC.out W9 hbf 1 _ rfl
                      have x2 := HXC.out W9 hbf 2 _ rfl
                      have x3 := HXC.out W9 hbf 3 _ rfl
                      simp only [Nat.add_zero] at x0 x1 x2 x3
                      obtain ⟨m0, m1, m2, m3⟩ := box4 hx9
                      have eqc : ∀ W, (Op.equalIn 10000 48 (.agg #[.int .i64 0, .int .i64 0, .int .i64 kq, .int .i64 0]) (.agg #[.int .i64 0, .int .i64 0, .int .i64 kq, .int .i64 0])).run Tryd.prog W = .ok true W := fun W => by rw [run_eqCell]; simp
                      have hbF := hbf
                      clear HXC HWd
                      go_wp2_with fail
                      go_quiet (fail)
                      go_wp2_with fail
                      go_roundw
                      case rel => exact ⟨q + 1, by omega, by go_num, below_drewN hbF _⟩
                      case measure => simp [RowKit.intOf]; omega

                  · have t1 : decide ((bv : Int) ≤ (q : Int)) = false := decide_eq_false (by omega)
                    have t1' : decide (bv ≤ q) = false := decide_eq_false h1
                    go_wp2_with fail
                    refine (HWd.out _ _ _ _ hsa).mono ?_
                    rintro e2 w3 ⟨rfl, hb3⟩
                    obtain ⟨W11, rfl⟩ : ∃ x, x = w3 := ⟨_, rfl⟩
                    have hb11 := hb10.trans (hb3.mono hb10.size)
                    have aX11 := (hb3.block _ alt).trans aX
                    have bX11 := (hb3.block _ blt).trans bX
                    have hG11 := (hb3.block _ bwlt).trans hG
                    clear ak0 ak1 ak2 ak3 ak4 ak5 ak6 ak7 ak8 bk0 bk1 bk2 bk3 bk4 bk5 bk6 bk7 bk8 aX bX alt blt hb3 hG hb10 bwlt
                    have aX := aX11
                    have bX := bX11
                    have hG := hG11
                    clear aX11 bX11 hG11
                    have alt : ga < W11.heap.size := (Array.getElem?_eq_some_iff.1 aX).1
                    have blt : gb < W11.heap.size := (Array.getElem?_eq_some_iff.1 bX).1
                    have bwlt : bw < W11.heap.size := (Array.getElem?_eq_some_iff.1 hG).1
                    obtain ⟨ak0, ak1, ak2, ak3, ak4, ak5, ak6, ak7, ak8⟩ := box9 aX
                    obtain ⟨bk0, bk1, bk2, bk3, bk4, bk5, bk6, bk7, bk8⟩ := box9 bX
                    by_cases h2 : av ≤ q
                    · obtain ⟨k1, hk1⟩ : ∃ k : Nat, q - at_ = k := ⟨_, rfl⟩
                      obtain ⟨kq, hkq⟩ : ∃ k : Nat, k1 - wa = k := ⟨_, rfl⟩
                      have ev1 : IntKind.i64.wrap ((q : Int) - (at_ : Int)) = (k1 : Int) := by rw [IntWalk.i64_in _ (by omega)]; omega
                      have ev2 : IntKind.i64.wrap ((k1 : Int) - (wa : Int)) = (kq : Int) := by rw [IntWalk.i64_in _ (by omega)]; omega
                      have t2 : ((av : Int) ≤ (q : Int)) := by omega
                      rw [if_neg (by omega), if_neg (by omega), if_pos (by omega), hk1, hkq] at hxe
                      cases hxe
                      go_wp2_with fail
                      have hcur : Below W11.heap.size W11 W11 := Below.refl _ _
                      go_region_held3 (fun W => W.cell? ⟨ga, 0, none⟩ = some (.int .i64 1) ∧ W.cell? ⟨ga, 1, none⟩ = some (.int .i64 1) ∧ W.cell? ⟨ga, 2, none⟩ = some (.int .i64 1) ∧ W.cell? ⟨ga, 3, none⟩ = some (.int .i64 at_) ∧ W.cell? ⟨ga, 4, none⟩ = some (.string ta) ∧ W.cell? ⟨ga, 5, none⟩ = some (.slice none 0 0) ∧ W.cell? ⟨ga, 6, none⟩ = some (.int .i64 0) ∧ W.cell? ⟨ga, 7, none⟩ = some (.int .i64 0) ∧ W.cell? ⟨ga, 8, none⟩ = some (.bool false) ∧ W.cell? ⟨gb, 0, none⟩ = some (.int .i64 2) ∧ W.cell? ⟨gb, 1, none⟩ = some (.int .i64 1) ∧ W.cell? ⟨gb, 2, none⟩ = some (.int .i64 1) ∧ W.cell? ⟨gb, 3, none⟩ = some (.int .i64 at_) ∧ W.cell? ⟨gb, 4, none⟩ = some (.string tb) ∧ W.cell? ⟨gb, 5, none⟩ = some (.slice none 0 0) ∧ W.cell? ⟨gb, 6, none⟩ = some (.int .i64 0) ∧ W.cell? ⟨gb, 7, none⟩ = some (.int .i64 0) ∧ W.cell? ⟨gb, 8, none⟩ = some (.bool false)) (first | exact ⟨ax0, ax1, ax2, ax3, ax4, ax5, ax6, ax7, ax8, bx0, bx1, bx2, bx3, bx4, bx5, bx6, bx7, bx8⟩ | exact ⟨ak0, ak1, ak2, ak3, ak4, ak5, ak6, ak7, ak8, bk0, bk1, bk2, bk3, bk4, bk5, bk6, bk7, bk8⟩ | exact ⟨ae0, ae1, ae2, ae3, ae4, ae5, ae6, ae7, ae8, be0, be1, be2, be3, be4, be5, be6, be7, be8⟩)
                        (first
                          | (go_at_call 19; refine (HWd.out _ _ _ _ ?_).mono ?_; (first | exact hsa | exact hsb); rintro e2 w1 ⟨rfl, hb1⟩; have hcur : Below W11.heap.size W11 w1 := (by first | exact hcur.trans (hb1.mono hcur.size) | exact hcur.drew.trans (hb1.mono hcur.size)); have ae0 := (hcur.cell (p := ⟨ga, 0, none⟩) alt).trans ak0; have ae1 := (hcur.cell (p := ⟨ga, 1, none⟩) alt).trans ak1; have ae2 := (hcur.cell (p := ⟨ga, 2, none⟩) alt).trans ak2; have ae3 := (hcur.cell (p := ⟨ga, 3, none⟩) alt).trans ak3; have ae4 := (hcur.cell (p := ⟨ga, 4, none⟩) alt).trans ak4; have ae5 := (hcur.cell (p := ⟨ga, 5, none⟩) alt).trans ak5; have ae6 := (hcur.cell (p := ⟨ga, 6, none⟩) alt).trans ak6; have ae7 := (hcur.cell (p := ⟨ga, 7, none⟩) alt).trans ak7; have ae8 := (hcur.cell (p := ⟨ga, 8, none⟩) alt).trans ak8; have be0 := (hcur.cell (p := ⟨gb, 0, none⟩) blt).trans bk0; have be1 := (hcur.cell (p := ⟨gb, 1, none⟩) blt).trans bk1; have be2 := (hcur.cell (p := ⟨gb, 2, none⟩) blt).trans bk2; have be3 := (hcur.cell (p := ⟨gb, 3, none⟩) blt).trans bk3; have be4 := (hcur.cell (p := ⟨gb, 4, none⟩) blt).trans bk4; have be5 := (hcur.cell (p := ⟨gb, 5, none⟩) blt).trans bk5; have be6 := (hcur.cell (p := ⟨gb, 6, none⟩) blt).trans bk6; have be7 := (hcur.cell (p := ⟨gb, 7, none⟩) blt).trans bk7; have be8 := (hcur.cell (p := ⟨gb, 8, none⟩) blt).trans bk8; have aX1 := (hcur.block _ alt).trans aX; have bX1 := (hcur.block _ blt).trans bX; have hG1 := (hcur.block _ bwlt).trans hG; have hs9 := store4 hG1 (.int .i64 2) (.int .i64 1) (.int .i64 (kq : Int)) (.int .i64 0); obtain ⟨W9, e9, hx9, hK9, hBl⟩ := hs9; obtain ⟨d0, d1, d2, d3⟩ := box4 hG1; obtain ⟨dz0, dz1, dz2, dz3⟩ := wr4 hG1; obtain ⟨ax0, ax1, ax2, ax3, ax4, ax5, ax6, ax7, ax8⟩ := box9 (hK9.block aX1 nga); obtain ⟨bx0, bx1, bx2, bx3, bx4, bx5, bx6, bx7, bx8⟩ := box9 (hK9.block bX1 ngb)))

                      all_goals
                        have hbf := hBl _ _ (hb11.trans (hcur.mono hb11.size)) hbw7
                        clear ak0 ak1 ak2 ak3 ak4 ak5 ak6 ak7 ak8 bk0 bk1 bk2 bk3 bk4 bk5 bk6 bk7 bk8 ae0 ae1 ae2 ae3 ae4 ae5 ae6 ae7 ae8 be0 be1 be2 be3 be4 be5 be6 be7 be8 ax0 ax1 ax2 ax3 ax4 ax5 ax6 ax7 ax8 bx0 bx1 bx2 bx3 bx4 bx5 bx6 bx7 bx8 d0 d1 d2 d3 dz0 dz1 dz2 dz3
                        have x0 := HXC.out W9 hbf 0 _ rfl
                        have x1 := HXC.out W9 hbf 1 _ rfl
                        have x2 := HXC.out W9 hbf 2 _ rfl
                        have x3 := HXC.out W9 hbf 3 _ rfl
                        simp only [Nat.add_zero] at x0 x1 x2 x3
                        obtain ⟨m0, m1, m2, m3⟩ := box4 hx9
                        have eqc : ∀ W, (Op.equalIn 10000 48 (.agg #[.int .i64 2, .int .i64 1, .int .i64 kq, .int .i64 0]) (.agg #[.int .i64 2, .int .i64 1, .int .i64 kq, .int .i64 0])).run Tryd.prog W = .ok true W := fun W => by rw [run_eqCell]; simp
                        have hbF := hbf
                        clear HXC HWd
                        go_wp2_with fail
                        go_quiet (fail)
                        go_wp2_with fail
                        go_roundw
                        case rel => exact ⟨q + 1, by omega, by go_num, below_drewN hbF _⟩
                        case measure => simp [RowKit.intOf]; omega

                    · have t2 : decide ((av : Int) ≤ (q : Int)) = false := decide_eq_false (by omega)
                      have t2' : decide (av ≤ q) = false := decide_eq_false h2
                      by_cases h3 : at_ ≤ q
                      · obtain ⟨kq, hkq⟩ : ∃ k : Nat, q - at_ = k := ⟨_, rfl⟩
                        have ev1 : IntKind.i64.wrap ((q : Int) - (at_ : Int)) = (kq : Int) := by rw [IntWalk.i64_in _ (by omega)]; omega
                        have t3 : ((at_ : Int) ≤ (q : Int)) := by omega
                        rw [if_neg (by omega), if_pos (by omega), hkq] at hxe
                        cases hxe
                        obtain ⟨W9, e9, hx9, hK9, hBl⟩ := store4 hG (.int .i64 1) (.int .i64 1) (.int .i64 (kq : Int)) (.int .i64 0)
                        obtain ⟨d0, d1, d2, d3⟩ := box4 hG
                        obtain ⟨dz0, dz1, dz2, dz3⟩ := wr4 hG
                        have hbf := hBl _ _ hb11 hbw7
                        have x0 := HXC.out W9 hbf 0 _ rfl
                        have x1 := HXC.out W9 hbf 1 _ rfl
                        have x2 := HXC.out W9 hbf 2 _ rfl
                        have x3 := HXC.out W9 hbf 3 _ rfl
                        simp only [Nat.add_zero] at x0 x1 x2 x3
                        obtain ⟨m0, m1, m2, m3⟩ := box4 hx9
                        have eqc : ∀ W, (Op.equalIn 10000 48 (.agg #[.int .i64 1, .int .i64 1, .int .i64 kq, .int .i64 0]) (.agg #[.int .i64 1, .int .i64 1, .int .i64 kq, .int .i64 0])).run Tryd.prog W = .ok true W := fun W => by rw [run_eqCell]; simp
                        have hbF := hbf
                        clear HXC HWd
                        go_wp2_with fail
                        go_quiet (fail)
                        go_wp2_with fail
                        go_roundw
                        case rel => exact ⟨q + 1, by omega, by go_num, below_drewN hbF _⟩
                        case measure => simp [RowKit.intOf]; omega

                      · have t3 : decide ((at_ : Int) ≤ (q : Int)) = false := decide_eq_false (by omega)
                        have t3' : decide (at_ ≤ q) = false := decide_eq_false h3
                        rw [if_pos (by omega)] at hxe
                        cases hxe
                        have x0 := HXC.out W11 hb11 0 _ rfl
                        have x1 := HXC.out W11 hb11 1 _ rfl
                        have x2 := HXC.out W11 hb11 2 _ rfl
                        have x3 := HXC.out W11 hb11 3 _ rfl
                        simp only [Nat.add_zero] at x0 x1 x2 x3
                        obtain ⟨m0, m1, m2, m3⟩ := box4 hG
                        have eqc : ∀ W, (Op.equalIn 10000 48 (.agg #[.int .i64 0, .int .i64 0, .int .i64 q, .int .i64 0]) (.agg #[.int .i64 0, .int .i64 0, .int .i64 q, .int .i64 0])).run Tryd.prog W = .ok true W := fun W => by rw [run_eqCell]; simp
                        have hbF := hb11
                        clear HXC HWd
                        go_wp2_with fail
                        go_quiet (fail)
                        go_wp2_with fail
                        go_roundw
                        case rel => exact ⟨q + 1, by omega, by go_num, below_drewN hbF _⟩
                        case measure => simp [RowKit.intOf]; omega

              · obtain rfl : q = tot := by omega
                have hBf := hB7.trans (hb.mono hB7.size)
                go_wp2_with fail
                go_ret
                exact ⟨rfl, hBf⟩
end Go.Proofs.YthkfcocakhekaaaDoor
