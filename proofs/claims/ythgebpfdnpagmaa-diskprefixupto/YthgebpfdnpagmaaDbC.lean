import Derived.Test.YthgebpfdnpagmaaDbB
import Derived.Lib.SlBytesConst
/-! DiskPrefix. -/
namespace Go.Proofs.Ythgebpfdnpagmaa
open Go.RowKit Go.Lib Go.Sort Go.Shelf
set_option maxRecDepth 100000

theorem bx5 {W0 W : World} {q B : Nat} {T : TypeId} {v0 v1 v2 v3 v4 : Value} (h : W0.heap[q]? = some (.cells #[v0, v1, v2, v3, v4] T)) (hb : Below B W0 W) (hq : q < B) : W.cell? ⟨q, 0, none⟩ = some v0 ∧ W.cell? ⟨q, 1, none⟩ = some v1 ∧ W.cell? ⟨q, 2, none⟩ = some v2 ∧ W.cell? ⟨q, 3, none⟩ = some v3 ∧ W.cell? ⟨q, 4, none⟩ = some v4 := box5 ((hb.block q hq).trans h)
set_option maxHeartbeats 1000000 in
theorem num_any (x : Int) (w : World) : Calls Try.prog 6 #[.int .i64 x] w fun e w' => e = .returned (.int .i64 x) ∧ w' = w := by
  go_enter Try.func6, Try.ntmps6
  go_wp2_with fail
  go_ret
  exact ⟨rfl, rfl⟩
set_option maxHeartbeats 1000000 in
theorem copied_any {w : World} {a : Option Addr} {n cap : Nat} {l : List UInt8} (h : Rw byU 1 w a n cap l) (hl : n ≤ 1099511627776) :
    Calls Try.prog 10 #[.slice a n cap] w fun e w' => ∃ a' cap', e = .returned (.slice a' n cap') ∧ OwnF byU 1 5 w' w.heap.size (.slice a' n cap') l ∧ Below w.heap.size w w' := by
  obtain ⟨a7, cap7, w7, hr7, ho7, hb7, _⟩ := appendU kindU layU (ownF_nil w w.heap.size) (Nat.le_refl _) h (by simp; omega) (by simp; omega) 22
  simp only [List.length_nil, Nat.zero_add, List.nil_append] at hr7 ho7
  have HX : Hid (OwnF byU 1 5 w7 w.heap.size (.slice a7 n cap7) l ∧ Below w.heap.size w w7) := ⟨ho7, hb7⟩
  clear h hl ho7 hb7
  go_enter Try.func10, Try.ntmps10
  go_wp2_with (at_builtin; refine wpList_append_hr rfl _ _ 22 rfl _ _ rfl rfl hr7 ?_)
  go_ret
  exact ⟨a7, cap7, rfl, HX.out⟩
/-- append([]byte(one letter), row...) -/
theorem lit_append (w : World) (c : UInt8) (c2 : Int) (hc2 : c2 = (c.toNat : Int)) {a : Option Addr} {n cap : Nat} {l : List UInt8} (h : Rw byU 1 w a n cap l) (hl : n ≤ 1048576) :
    ∃ a' cap' w', (Builtin.append_ #[22, 22] 22 #[.slice (some ⟨w.heap.size, 0, none⟩) 1 1, .slice a n cap]).run Try.prog (w.alloc (.cells #[.int .u8 c2] 5 (1, 2))) = .ok (.slice a' (n + 1) cap') w' ∧ Rw byU 1 w' a' (n + 1) cap' (c :: l) ∧ Below w.heap.size w w' := by
  subst hc2
  obtain ⟨i, z, hi, hz, hsz, hby, hzc⟩ := kindU.info
  have hb : Below w.heap.size w (w.alloc (.cells #[.int .u8 (c.toNat : Int)] 5 (1, 2))) := (Below.refl _ _).alloc (Nat.le_refl _) _
  have hh : (w.alloc (.cells #[.int .u8 (c.toNat : Int)] 5 (1, 2))).heap[w.heap.size]? = some (.cells #[.int .u8 (c.toNat : Int)] 5 (1, 2)) := (MapKept.heap_alloc w _).1
  have hlt : w.heap.size < (w.alloc (.cells #[.int .u8 (c.toNat : Int)] 5 (1, 2))).heap.size := (Array.getElem?_eq_some_iff.1 hh).1
  have h' := h.below hb
  have hlen := h.len
  generalize hV : w.alloc (.cells #[.int .u8 (c.toNat : Int)] 5 (1, 2)) = V at *
  by_cases h0 : 0 < n
  · obtain ⟨g, off, rfl, hg, hc⟩ := h'.row layU h0
    have hnc : Builtin.nextslicecap (1 + n) 1 ≤ 2 * (1 + n) := nextslicecap_le (by omega)
    have hr := run_append_grow (P := Try.prog) V 22 22 5 i z Try.underlying22 hi hz ⟨w.heap.size, 0, none⟩ 1 1 [.int .u8 (c.toNat : Int)] (by rw [hsz]; rfl) (fun j v hj => by
        rw [addr_add']
        match j, hj with
        | 0, hj => simp at hj; subst hj; simp [World.cell?, hh]) ⟨g, off, none⟩ n cap (flatF byU l) (by rw [flatF_length layU, hsz, hlen]) hc (by omega) (by omega) (by rw [hby]; omega)
    rw [Nat.add_comm 1 n] at hr
    refine ⟨_, _, _, hr, ⟨by simp [hlen], ⟨grownCap_ge .., grownCap_le_maxLen _ _ _ _ (by simp only [maxLen]; omega)⟩, fun _ => ⟨V.heap.size, 0, rfl, by show _ < (V.heap.push _).size; simp, fun j x hj q v hv => ?_⟩⟩, (hb.drew).alloc (Nat.le_of_lt hlt) _⟩
    have hq : q = 0 := by have := (List.getElem?_eq_some_iff.1 hv).1; simp [byU] at this; omega
    subst hq
    have hjl : j < (c :: l).length := (List.getElem?_eq_some_iff.1 hj).1
    have hf := flatF_get layU (c :: l) j x hj 0 (by decide)
    rw [hv] at hf
    have hh2 := (MapKept.heap_alloc V.drew (.cells ([Value.int .u8 (c.toNat : Int)].toArray ++ (flatF byU l).toArray ++ Builtin.zeroCells z.cells (grownCap V (n + 1) 1 5 - (n + 1))) 5)).1
    have hh3 : (V.drew.alloc (.cells ([Value.int .u8 (c.toNat : Int)].toArray ++ (flatF byU l).toArray ++ Builtin.zeroCells z.cells (grownCap V (n + 1) 1 5 - (n + 1))) 5)).heap[V.heap.size]? = some (.cells ([Value.int .u8 (c.toNat : Int)].toArray ++ (flatF byU l).toArray ++ Builtin.zeroCells z.cells (grownCap V (n + 1) 1 5 - (n + 1))) 5) := hh2
    simp only [World.cell?, hh3]
    rw [Array.getElem?_append_left (by
      simp only [Array.size_append, List.size_toArray, List.length_cons, List.length_nil, flatF_length layU]
      simp only [List.length_cons] at hjl
      omega)]
    have e9 : [Value.int .u8 (c.toNat : Int)].toArray ++ (flatF byU l).toArray = (flatF byU (c :: l)).toArray := by
      simp [flatF, byU]
    rw [e9, ← hf]
    simp
  · obtain rfl : n = 0 := by omega
    obtain rfl : l = [] := List.eq_nil_of_length_eq_zero hlen
    refine ⟨some ⟨w.heap.size, 0, none⟩, 1, V, ?_, ⟨rfl, ⟨Nat.le_refl _, by decide⟩, fun _ => ⟨w.heap.size, 0, rfl, hlt, fun j x hj q v hv => ?_⟩⟩, hb⟩
    · cases a <;> simp [Builtin.append_, run_underlying kindU.under, sizeOf, typeInfo, hi, Builtin.lenOf, Builtin.firstCells, storeCells, loadCells, loadCellsFrom]
    · match j, hj with
      | 0, hj =>
        simp at hj
        subst hj
        match q, hv with
        | 0, hv => simp [byU] at hv; subst hv; simp [World.cell?, hh]
theorem str_cat (a b : List UInt8) : (⟨a.toArray⟩ : ByteArray) ++ ⟨b.toArray⟩ = ⟨(a ++ b).toArray⟩ := by
  apply ByteArray.ext
  simp
theorem str_size (a : List UInt8) : (⟨a.toArray⟩ : ByteArray).size = a.length := by simp [ByteArray.size]
theorem rdy {S : Dk} {nm : List UInt8} (h1 : S.down = false) (h2 : nameOk nm = true) : readyP S nm = 0 := by
  unfold readyP
  rw [h1, h2]
  rfl
theorem take_min {α : Type} (l : List α) (k : Nat) : l.take (min k l.length) = l.take k := by
  by_cases hk : l.length ≤ k
  · rw [Nat.min_eq_right hk, take_all l k hk, take_all l _ (Nat.le_refl _)]
  · rw [Nat.min_eq_left (by omega)]
theorem str_take (Z : List UInt8) (k : Nat) : (⟨(63 :: Z).toArray⟩ : ByteArray).extract 0 (min k (Z.length + 1)) = ⟨(wantB Z k).toArray⟩ := by
  have h : ((63 :: Z).take (min k (Z.length + 1))) = wantB Z k := take_min (63 :: Z) k
  rw [← h]
  apply ByteArray.ext
  simp [ByteArray.data_extract]
theorem ab_lt : Lib.compareBytes na nb < 0 := by decide
theorem str_list (l : List UInt8) : (⟨l.toArray⟩ : ByteArray).toList = l := by
  simp
theorem str_ne_self (s : ByteArray) : (s != s) = false := by
  rw [bne, (MapKept.bytes_beq s s).2 rfl]
  rfl
theorem hfs1 (X Y Z : List UInt8) (k : Nat) (h : wantB Z k = []) : (pS5 X Y Z k false).fs = [⟨na, wantA X Y k, (wantA X Y k).length⟩] := by
  unfold pS5 pFA
  simp only
  rw [if_pos h]
theorem hfs2 (X Y Z : List UInt8) (k : Nat) (h : ¬ wantB Z k = []) : (pS5 X Y Z k false).fs = [⟨na, wantA X Y k, (wantA X Y k).length⟩, ⟨nb, wantB Z k, (wantB Z k).length⟩] := by
  unfold pS5 pFA
  simp only
  rw [if_neg h]
theorem len5 (X Y Z : List UInt8) (k : Nat) : (pS5 X Y Z k false).fs.length ≤ 1099511627776 := by
  by_cases h : wantB Z k = []
  · rw [hfs1 X Y Z k h]; simp
  · rw [hfs2 X Y Z k h]; simp
theorem nm5 (X Y Z : List UInt8) (k : Nat) : ∀ f ∈ (pS5 X Y Z k false).fs, f.nm.length ≤ 281474976710656 := by
  intro f hf
  by_cases h : wantB Z k = []
  · rw [hfs1 X Y Z k h] at hf
    simp at hf
    subst hf
    show (1 : Nat) ≤ _
    omega
  · rw [hfs2 X Y Z k h] at hf
    simp at hf
    rcases hf with rfl | rfl <;> (show (1 : Nat) ≤ _; omega)
theorem ok_na : nameOk na = true := by decide
theorem ok_nb : nameOk nb = true := by decide
set_option maxHeartbeats 8000000 in
theorem diskPrefix_true {w : World} (X Y Z : List UInt8) {xa ya za : Option Addr} {xc yc zc : Nat} (hX : Rw byU 1 w xa X.length xc X) (hY : Rw byU 1 w ya Y.length yc Y) (hZ : Rw byU 1 w za Z.length zc Z) (K : Int) (hK : K ≤ 9223372036854775807) (hl : X.length + Y.length + Z.length ≤ 1048576) :
    Calls Try.prog 3 #[.agg #[.slice xa X.length xc, .slice ya Y.length yc, .slice za Z.length zc, .int .i64 K, .bool true]] w fun e w' => e = .returned (.bool true) ∧ Below w.heap.size w w' := by
  obtain ⟨k, hk⟩ : ∃ k : Nat, max K 0 = (k : Int) := ⟨(max K 0).toNat, by omega⟩
  have hk2 : k ≤ 9223372036854775807 := by omega
  have HMX : ∀ ats ty W, (Builtin.max_ ats ty #[.int .i64 K, .int .i64 0]).run Try.prog W = .ok (.int .i64 (k : Int)) W := fun ats ty W => by rw [max_run, hk]
  obtain ⟨W0, hW0⟩ : ∃ W0, w.alloc (.cells #[.slice xa X.length xc, .slice ya Y.length yc, .slice za Z.length zc, .int .i64 K, .bool true] 24) = W0 := ⟨_, rfl⟩
  have hW0s : W0.heap.size = w.heap.size + 1 := by rw [← hW0, World.size_alloc]
  have hW0w : Below w.heap.size w W0 := by rw [← hW0]; exact (Below.refl _ _).alloc (Nat.le_refl _) _
  have hW0h : W0.heap[w.heap.size]? = some (.cells #[.slice xa X.length xc, .slice ya Y.length yc, .slice za Z.length zc, .int .i64 K, .bool true] 24) := by rw [← hW0]; exact (MapKept.heap_alloc w _).1
  have HQ : Hid (w.heap.size < W0.heap.size) := by rw [Hid, hW0s]; exact Nat.lt_succ_self _
  have hWW : ∀ W, Below W0.heap.size W0 W → Below w.heap.size w W := fun W hb => hW0w.trans (hb.mono (by omega))
  have HWW : Hid (∀ W, Below W0.heap.size W0 W → Below w.heap.size w W) := hWW
  have HRX : Hid (∀ W, Below W0.heap.size W0 W → Rw byU 1 W xa X.length xc X) := fun W hb => hX.below (hWW W hb)
  have HRY : Hid (∀ W, Below W0.heap.size W0 W → Rw byU 1 W ya Y.length yc Y) := fun W hb => hY.below (hWW W hb)
  have HRZ : Hid (∀ W, Below W0.heap.size W0 W → Rw byU 1 W za Z.length zc Z) := fun W hb => hZ.below (hWW W hb)
  have HL : Hid (X.length + Y.length + Z.length ≤ 1048576) := hl
  have HKK : Hid (k ≤ 9223372036854775807) := hk2
  have HW0 : Hid (W0.heap[w.heap.size]? = some (.cells #[.slice xa X.length xc, .slice ya Y.length yc, .slice za Z.length zc, .int .i64 K, .bool true] 24)) := hW0h
  obtain ⟨n1, hn1⟩ : ∃ n : Nat, n = X.length + Y.length := ⟨_, rfl⟩
  obtain ⟨n2, hn2⟩ : ∃ n : Nat, n = X.length + Y.length + Z.length := ⟨_, rfl⟩
  obtain ⟨n3, hn3⟩ : ∃ n : Nat, n = X.length + Y.length + Z.length + 2 := ⟨_, rfl⟩
  have HN3 : Hid (n3 = X.length + Y.length + Z.length + 2) := hn3
  have g1 : IntKind.i64.wrap ((X.length : Int) + (Y.length : Int)) = (n1 : Int) := by rw [IntWalk.i64_in _ (by omega)]; omega
  have g2 : IntKind.i64.wrap ((n1 : Int) + (Z.length : Int)) = (n2 : Int) := by rw [IntWalk.i64_in _ (by omega)]; omega
  have g3 : IntKind.i64.wrap ((n2 : Int) + 2) = (n3 : Int) := by rw [IntWalk.i64_in _ (by omega)]; omega
  have HNU : Hid (∀ x w, Calls Try.prog 6 #[.int .i64 x] w fun e w' => e = .returned (.int .i64 x) ∧ w' = w) := num_any
  obtain ⟨b0, b1, b2, b3, b4⟩ := box5 hW0h
  clear hX hY hZ hK hl hk hk2 hW0s hW0w hWW hW0h hn1 hn2 hn3
  go_enter Try.func3, Try.ntmps3
  go_wp2_with fail
  refine (ds_new (Nat.le_refl _) (Below.refl W0.heap.size W0) n3 (by have := HL.out; have := HN3.out; omega)).mono ?_
  rintro e w1 ⟨p, rfl, hd1⟩
  have HD1 : Hid (DS W0.heap.size W0 w1 p (pS0 X Y Z)) := by rw [HN3.out] at hd1; exact hd1
  clear hd1 b0 b1 b2 b3 b4 g1 g2 g3 hW0
  go_wp2_with fail
  refine (HNU.out _ _).mono ?_
  rintro e wz ⟨rfl, hz⟩
  rw [hz]
  clear hz wz
  obtain ⟨b0, b1, b2, b3, b4⟩ := bx5 HW0.out HD1.out.below HQ.out
  obtain ⟨a5, c5, wa, hr5, ho5, hb5⟩ := lit_append w1 33 33 rfl (HRX.out w1 HD1.out.below) (by have := HL.out; omega)
  have hcv := Lib.run_convert_bytes_const (P := Try.prog) w1 22 5 #[.int .u8 33] 1 1 Try.underlying22 Try.underlying5
  have HO5 : Hid (Rw byU 1 wa a5 (X.length + 1) c5 (33 :: X) ∧ Below w1.heap.size w1 wa) := ⟨ho5, hb5⟩
  obtain ⟨V5, hV5⟩ : ∃ V5, w1.alloc (.cells #[.int .u8 33] 5 (1, 2)) = V5 := ⟨_, rfl⟩
  replace hcv : (convert 22 22 (.slice (some ⟨w1.heap.size, 0, none⟩) 1 1)).run Try.prog (w1.alloc (.cells #[.int .u8 33] 5)) = .ok (.slice (some ⟨w1.heap.size, 0, none⟩) 1 1) V5 := by rw [← hV5]; exact hcv
  rw [hV5] at hr5
  have hbV : Below w1.heap.size w1 V5 := by rw [← hV5]; exact (Below.refl _ _).alloc (Nat.le_refl _) _
  obtain ⟨v0, v1, v2, v3, v4⟩ := bx5 HW0.out (HD1.out.grow (Nat.le_refl _) hbV).below HQ.out
  clear ho5 hb5 hV5 hbV
  go_wp2_with (at_builtin; refine wpList_append_hr rfl _ _ 22 rfl _ _ rfl rfl hr5 ?_)
  have HC : Hid (Calls Try.prog 7 #[.pointer (some ⟨p, 0, none⟩), .string ⟨#[97]⟩, .slice a5 (X.length + 1) c5] wa fun e w' => e = .returned (.tuple #[.int .i64 ((X.length + 1 : Nat) : Int), .int .i64 0]) ∧ DS W0.heap.size W0 w' p (pS1 X Y Z)) := by
    have := ds_append (Nat.le_refl _) (HD1.out.grow (Nat.le_refl _) HO5.out.2) (ok0 X Y Z HL.out) na (rdy rfl ok_na) (by decide) HO5.out.1
    rw [step01] at this
    exact this
  refine HC.out.mono ?_
  rintro e w2 ⟨rfl, hd⟩
  have HD2 : Hid (DS W0.heap.size W0 w2 p (pS1 X Y Z)) := hd
  clear hd HC hr5 hcv v0 v1 v2 v3 v4 b0 b1 b2 b3 b4 HO5 V5 HMX
  go_wp2_with fail
  have HC : Hid (Calls Try.prog 8 #[.pointer (some ⟨p, 0, none⟩), .string ⟨#[97]⟩] w2 fun e w' => e = .returned (.int .i64 0) ∧ DS W0.heap.size W0 w' p (pS2 X Y Z)) := by
    have := ds_sync (Nat.le_refl _) HD2.out na (rdy rfl ok_na) (by decide) rfl ⟨_, List.mem_cons_self .., rfl⟩
    rw [step12] at this
    exact this
  refine HC.out.mono ?_
  rintro e w3 ⟨rfl, hd⟩
  have HD3 : Hid (DS W0.heap.size W0 w3 p (pS2 X Y Z)) := hd
  clear hd HC
  obtain ⟨b0, b1, b2, b3, b4⟩ := bx5 HW0.out HD3.out.below HQ.out
  obtain ⟨a5, c5, wa, hr5, ho5, hb5⟩ := lit_append w3 63 63 rfl (HRZ.out w3 HD3.out.below) (by have := HL.out; omega)
  have hcv := Lib.run_convert_bytes_const (P := Try.prog) w3 22 5 #[.int .u8 63] 1 1 Try.underlying22 Try.underlying5
  have HO5 : Hid (Rw byU 1 wa a5 (Z.length + 1) c5 (63 :: Z) ∧ Below w3.heap.size w3 wa) := ⟨ho5, hb5⟩
  obtain ⟨V5, hV5⟩ : ∃ V5, w3.alloc (.cells #[.int .u8 63] 5 (1, 2)) = V5 := ⟨_, rfl⟩
  replace hcv : (convert 22 22 (.slice (some ⟨w3.heap.size, 0, none⟩) 1 1)).run Try.prog (w3.alloc (.cells #[.int .u8 63] 5)) = .ok (.slice (some ⟨w3.heap.size, 0, none⟩) 1 1) V5 := by rw [← hV5]; exact hcv
  rw [hV5] at hr5
  have hbV : Below w3.heap.size w3 V5 := by rw [← hV5]; exact (Below.refl _ _).alloc (Nat.le_refl _) _
  obtain ⟨v0, v1, v2, v3, v4⟩ := bx5 HW0.out (HD3.out.grow (Nat.le_refl _) hbV).below HQ.out
  clear ho5 hb5 hV5 hbV
  go_wp2_with (at_builtin; refine wpList_append_hr rfl _ _ 22 rfl _ _ rfl rfl hr5 ?_)
  have HC : Hid (Calls Try.prog 7 #[.pointer (some ⟨p, 0, none⟩), .string ⟨#[98]⟩, .slice a5 (Z.length + 1) c5] wa fun e w' => e = .returned (.tuple #[.int .i64 ((Z.length + 1 : Nat) : Int), .int .i64 0]) ∧ DS W0.heap.size W0 w' p (pS3 X Y Z 0 0)) := by
    have := ds_append (Nat.le_refl _) (HD3.out.grow (Nat.le_refl _) HO5.out.2) (ok2 X Y Z HL.out) nb (rdy rfl ok_nb) (by decide) HO5.out.1
    rw [step23] at this
    exact this
  refine HC.out.mono ?_
  rintro e w4 ⟨rfl, hd⟩
  have HD4 : Hid (DS W0.heap.size W0 w4 p (pS3 X Y Z 0 0)) := hd
  clear hd HC hr5 hcv v0 v1 v2 v3 v4 b0 b1 b2 b3 b4 HO5 V5
  obtain ⟨b0, b1, b2, b3, b4⟩ := bx5 HW0.out HD4.out.below HQ.out
  go_wp2_with fail
  have HC : Hid (Calls Try.prog 9 #[.pointer (some ⟨p, 0, none⟩), .int .i64 1, .int .i64 (k : Int)] w4 fun e w' => e = .returned (.int .i64 0) ∧ DS W0.heap.size W0 w' p (pS3 X Y Z 1 k)) := by
    have := ds_arm (Nat.le_refl _) HD4.out rfl 1 k (by decide)
    exact this
  refine HC.out.mono ?_
  rintro e w5 ⟨rfl, hd⟩
  have HD5 : Hid (DS W0.heap.size W0 w5 p (pS3 X Y Z 1 k)) := hd
  clear hd HC b0 b1 b2 b3 b4
  obtain ⟨b0, b1, b2, b3, b4⟩ := bx5 HW0.out HD5.out.below HQ.out
  go_wp2_with fail
  refine (copied_any (HRY.out _ HD5.out.below) (by have := HL.out; omega)).mono ?_
  rintro e w6 ⟨a6, c6, rfl, ho6, hb6⟩
  have HD6 : Hid (DS W0.heap.size W0 w6 p (pS3 X Y Z 1 k)) := HD5.out.grow (Nat.le_refl _) hb6
  have HO6 : Hid (Rw byU 1 w6 a6 Y.length c6 Y) := ho6.rw_ layU
  clear ho6 hb6 b0 b1 b2 b3 b4
  go_wp2_with fail
  have HC : Hid (Calls Try.prog 7 #[.pointer (some ⟨p, 0, none⟩), .string ⟨#[97]⟩, .slice a6 Y.length c6] w6 fun e w' => e = .returned (.tuple #[.int .i64 0, .int .i64 110]) ∧ DS W0.heap.size W0 w' p (pS5 X Y Z k true)) := by
    have := ds_append (Nat.le_refl _) HD6.out (ok3 X Y Z HL.out 1 k (by decide) HKK.out) na (rdy rfl ok_na) (by decide) HO6.out
    rw [stepArmed] at this
    exact this
  refine HC.out.mono ?_
  rintro e w9 ⟨rfl, hd⟩
  have HD9 : Hid (DS W0.heap.size W0 w9 p (pS5 X Y Z k true)) := hd
  clear hd HC HO6
  go_wp2_with fail
  refine (HNU.out _ _).mono ?_
  rintro e wz ⟨rfl, hz⟩
  rw [hz]
  clear hz wz
  go_wp2_with fail
  refine (HNU.out _ _).mono ?_
  rintro e wz ⟨rfl, hz⟩
  rw [hz]
  clear hz wz
  obtain ⟨b0, b1, b2, b3, b4⟩ := bx5 HW0.out HD9.out.below HQ.out
  go_wp2_with fail
  obtain ⟨W10, hW10⟩ : ∃ W10, w9.drew = W10 := ⟨_, rfl⟩
  have hbW : Below w9.heap.size w9 W10 := by rw [← hW10]; exact (Below.refl _ _).drew
  have HDA : Hid (DS W0.heap.size W0 W10 p (pS5 X Y Z k true)) := HD9.out.grow (Nat.le_refl _) hbW
  clear b0 b1 b2 b3 b4 hbW
  obtain ⟨b0, b1, b2, b3, b4⟩ := bx5 HW0.out HDA.out.below HQ.out
  obtain ⟨my, hmy⟩ : ∃ m : Nat, m = min k Y.length := ⟨_, rfl⟩
  have HM1 : ∀ ats ty W, (Builtin.min_ ats ty #[.int .i64 (k : Int), .int .i64 (Y.length : Int)]).run Try.prog W = .ok (.int .i64 (my : Int)) W := fun ats ty W => by rw [min_run]; congr 2; omega
  have hyr := HRY.out W10 HDA.out.below
  have hyroom := hyr.room
  have HCU : ∀ W : World, (Instr.slice 22 (.slice ya Y.length yc) none (some (.int .i64 (my : Int))) none).run Try.prog W = .ok (.slice ya my yc) W := fun W => cutU W ya _ yc my (by omega)
  obtain ⟨sX, hsX⟩ : ∃ s : ByteArray, s = ⟨X.toArray⟩ := ⟨_, rfl⟩
  obtain ⟨sY, hsY⟩ : ∃ s : ByteArray, s = ⟨(Y.take my).toArray⟩ := ⟨_, rfl⟩
  obtain ⟨sZ, hsZ⟩ : ∃ s : ByteArray, s = ⟨Z.toArray⟩ := ⟨_, rfl⟩
  obtain ⟨s1, hs1⟩ : ∃ s : ByteArray, s = ⟨(33 :: X).toArray⟩ := ⟨_, rfl⟩
  obtain ⟨sW, hsW⟩ : ∃ s : ByteArray, s = ⟨(wantA X Y k).toArray⟩ := ⟨_, rfl⟩
  obtain ⟨s2, hs2⟩ : ∃ s : ByteArray, s = ⟨(63 :: Z).toArray⟩ := ⟨_, rfl⟩
  obtain ⟨sO, hsO⟩ : ∃ s : ByteArray, s = ⟨(wantB Z k).toArray⟩ := ⟨_, rfl⟩
  have v1 := conv_bytes (HRX.out W10 HDA.out.below)
  have v2 := conv_bytes (hyr.take my (by omega))
  have v3 := conv_bytes (HRZ.out W10 HDA.out.below)
  rw [← hsX] at v1
  rw [← hsY] at v2
  rw [← hsZ] at v3
  have e1 : (⟨#[33]⟩ : ByteArray) ++ sX = s1 := by rw [hsX, hs1]; exact str_cat [33] X
  have e2 : s1 ++ sY = sW := by rw [hs1, hsY, hsW, str_cat, hmy, take_min]; rfl
  have e3 : (⟨#[63]⟩ : ByteArray) ++ sZ = s2 := by rw [hsZ, hs2]; exact str_cat [63] Z
  obtain ⟨mz, hmz⟩ : ∃ m : Nat, m = min k (Z.length + 1) := ⟨_, rfl⟩
  have hz2 : s2.size = Z.length + 1 := by rw [hs2, str_size]; rfl
  have e4 : s2.extract 0 mz = sO := by rw [hs2, hsO, hmz]; exact str_take Z k
  have HM2 : ∀ ats ty W, (Builtin.min_ ats ty #[.int .i64 (k : Int), .int .i64 (s2.size : Int)]).run Try.prog W = .ok (.int .i64 (mz : Int)) W := fun ats ty W => by rw [min_run, hz2]; congr 2; omega
  have z1 : ¬ 9223372036854775807 < 1 + sX.size := by rw [hsX, str_size]; have := HL.out; omega
  have z2 : ¬ 9223372036854775807 < s1.size + sY.size := by rw [hs1, hsY, str_size, str_size, List.length_take, List.length_cons]; have := HL.out; omega
  have z3 : ¬ 9223372036854775807 < 1 + sZ.size := by rw [hsZ, str_size]; have := HL.out; omega
  have q1 : (mz : Int) ≤ (s2.size : Int) := by rw [hz2]; omega
  have q2 : (0 : Int) ≤ (mz : Int) := by omega
  have HSW : Hid (sW = ⟨(wantA X Y k).toArray⟩) := hsW
  have HSO : Hid (sO = ⟨(wantB Z k).toArray⟩) := hsO
  have HZS : Hid (s2.size ≤ 1048577 ∧ s1.size ≤ 1048577 ∧ sW.size ≤ 2097152) := by
    have := HL.out
    refine ⟨by omega, by rw [hs1, str_size]; simp; omega, ?_⟩
    rw [hsW, str_size]
    simp only [wantA, List.length_append, List.length_cons, List.length_take]
    omega
  clear hyr hyroom hsX hsY hsZ hs1 hsW hs2 hsO hmy hmz hz2
  refine wp_region_held_drew (S := (fun W => W = W10)) (by kernel_rfl) ?hS1 (fun hHeld => ?rest1)
  case hS1 => exact hW10
  refine takeD (i := 0) (d := some 109) (v := ?vT2) rfl rfl (by kernel_rfl) (by kernel_rfl) (by kernel_rfl) (fun _ _ _ h => h) (Or.inl ⟨by rfl, ?hyT2⟩) (by assumption) ?rstT2
  case hyT2 => (intro w hSw; (try dsimp only at hSw); go_simp; (try with_reducible rfl))
  try simp only [Act.put, List.setIfInBounds_toArray, List.set_cons_zero, List.set_cons_succ]
  refine takeD (i := 1) (d := some 110) (v := ?vT3) rfl rfl (by kernel_rfl) (by kernel_rfl) (by kernel_rfl) (fun _ _ _ h => h) (Or.inl ⟨by rfl, ?hyT3⟩) (by assumption) ?rstT3
  case hyT3 => (intro w hSw; (try dsimp only at hSw); go_simp; (try with_reducible rfl))
  try simp only [Act.put, List.setIfInBounds_toArray, List.set_cons_zero, List.set_cons_succ]
  refine takeD (i := 2) (d := some 111) (v := ?vT4) rfl rfl (by kernel_rfl) (by kernel_rfl) (by kernel_rfl) (fun _ _ _ h => h) (Or.inl ⟨by rfl, ?hyT4⟩) (by assumption) ?rstT4
  case hyT4 => (intro w hSw; (try dsimp only at hSw); go_simp; (try with_reducible rfl))
  try simp only [Act.put, List.setIfInBounds_toArray, List.set_cons_zero, List.set_cons_succ]
  refine takeD (i := 3) (d := some 112) (v := ?vT5) rfl rfl (by kernel_rfl) (by kernel_rfl) (by kernel_rfl) (fun _ _ _ h => h) (Or.inl ⟨by rfl, ?hyT5⟩) (by assumption) ?rstT5
  case hyT5 => (intro w hSw; (try dsimp only at hSw); go_simp; (try with_reducible rfl))
  try simp only [Act.put, List.setIfInBounds_toArray, List.set_cons_zero, List.set_cons_succ]
  refine takeD (i := 4) (d := some 113) (v := ?vT6) rfl rfl (by kernel_rfl) (by kernel_rfl) (by kernel_rfl) (fun _ _ _ h => h) (Or.inl ⟨by rfl, ?hyT6⟩) (by assumption) ?rstT6
  case hyT6 => (intro w hSw; (try dsimp only at hSw); go_simp; (try with_reducible rfl))
  try simp only [Act.put, List.setIfInBounds_toArray, List.set_cons_zero, List.set_cons_succ]
  refine takeD (i := 5) (d := some 114) (v := ?vT7) rfl rfl (by kernel_rfl) (by kernel_rfl) (by kernel_rfl) (fun _ _ _ h => h) (Or.inl ⟨by rfl, ?hyT7⟩) (by assumption) ?rstT7
  case hyT7 => (intro w hSw; (try dsimp only at hSw); go_simp; (try with_reducible rfl))
  try simp only [Act.put, List.setIfInBounds_toArray, List.set_cons_zero, List.set_cons_succ]
  refine takeD (i := 6) (d := some 115) (v := ?vT8) rfl rfl (by kernel_rfl) (by kernel_rfl) (by kernel_rfl) (fun _ _ _ h => h) (Or.inl ⟨by rfl, ?hyT8⟩) (by assumption) ?rstT8
  case hyT8 => (intro w hSw; (try dsimp only at hSw); go_simp; (try with_reducible rfl))
  try simp only [Act.put, List.setIfInBounds_toArray, List.set_cons_zero, List.set_cons_succ]
  refine takeD (i := 7) (d := some 116) (v := ?vT9) rfl rfl (by kernel_rfl) (by kernel_rfl) (by kernel_rfl) (fun _ _ _ h => h) (Or.inl ⟨by rfl, ?hyT9⟩) (by assumption) ?rstT9
  case hyT9 => (intro w hSw; (try dsimp only at hSw); go_simp; (try with_reducible rfl))
  try simp only [Act.put, List.setIfInBounds_toArray, List.set_cons_zero, List.set_cons_succ]
  refine takeD (i := 8) (d := some 117) (v := ?vT10) rfl rfl (by kernel_rfl) (by kernel_rfl) (by kernel_rfl) (fun _ _ _ h => h) (Or.inl ⟨by rfl, ?hyT10⟩) (by assumption) ?rstT10
  case hyT10 => (intro w hSw; (try dsimp only at hSw); go_simp; (try with_reducible rfl))
  try simp only [Act.put, List.setIfInBounds_toArray, List.set_cons_zero, List.set_cons_succ]
  refine takeD (i := 9) (d := some 118) (v := ?vT11) rfl rfl (by kernel_rfl) (by kernel_rfl) (by kernel_rfl) (fun _ _ _ h => h) (Or.inl ⟨by rfl, ?hyT11⟩) (by assumption) ?rstT11
  case hyT11 => (intro w hSw; (try dsimp only at hSw); go_simp; (try with_reducible rfl))
  try simp only [Act.put, List.setIfInBounds_toArray, List.set_cons_zero, List.set_cons_succ]
  refine takeD (i := 10) (d := some 119) (v := ?vT12) rfl rfl (by kernel_rfl) (by kernel_rfl) (by kernel_rfl) (fun _ _ _ h => h) (Or.inl ⟨by rfl, ?hyT12⟩) (by assumption) ?rstT12
  case hyT12 => (intro w hSw; (try dsimp only at hSw); go_simp; (try with_reducible rfl))
  try simp only [Act.put, List.setIfInBounds_toArray, List.set_cons_zero, List.set_cons_succ]
  refine takeD (i := 11) (d := some 120) (v := ?vT13) rfl rfl (by kernel_rfl) (by kernel_rfl) (by kernel_rfl) (fun _ _ _ h => h) (Or.inl ⟨by rfl, ?hyT13⟩) (by assumption) ?rstT13
  case hyT13 => (intro w hSw; (try dsimp only at hSw); go_simp; (try with_reducible rfl))
  try simp only [Act.put, List.setIfInBounds_toArray, List.set_cons_zero, List.set_cons_succ]
  refine takeD (i := 12) (d := some 121) (v := ?vT14) rfl rfl (by kernel_rfl) (by kernel_rfl) (by kernel_rfl) (fun _ _ _ h => h) (Or.inl ⟨by rfl, ?hyT14⟩) (by assumption) ?rstT14
  case hyT14 => (intro w hSw; (try dsimp only at hSw); go_simp; (try with_reducible rfl))
  try simp only [Act.put, List.setIfInBounds_toArray, List.set_cons_zero, List.set_cons_succ]
  refine takeD (i := 13) (d := some 122) (v := ?vT15) rfl rfl (by kernel_rfl) (by kernel_rfl) (by kernel_rfl) (fun _ _ _ h => h) (Or.inl ⟨by rfl, ?hyT15⟩) (by assumption) ?rstT15
  case hyT15 => (intro w hSw; (try dsimp only at hSw); go_simp; (try with_reducible rfl))
  try simp only [Act.put, List.setIfInBounds_toArray, List.set_cons_zero, List.set_cons_succ]
  refine takeD (i := 14) (d := some 12) (v := ?vT16) rfl rfl (by kernel_rfl) (by kernel_rfl) (by kernel_rfl) (fun _ _ _ h => h) (Or.inl ⟨by rfl, ?hyT16⟩) (by assumption) ?rstT16
  case hyT16 => (intro w hSw; (try dsimp only at hSw); go_simp; (try with_reducible rfl))
  try simp only [Act.put, List.setIfInBounds_toArray, List.set_cons_zero, List.set_cons_succ]
  refine wpAnyH_done (by kernel_rfl) ?_ _
  go_wp2_with fail
  clear hHeld
  go_loopw [14] (fun v wr => ∃ i : Nat, i ≤ 2 ∧ v = .int .i64 (i : Int) ∧ Hid (DS W0.heap.size W0 wr p (pS5 X Y Z k true))) (fun v _ => 2 - (RowKit.intOf v).toNat)
  case atStart => exact ⟨0, by omega, rfl, HDA.out⟩
  case round =>
    obtain ⟨i, hi, rfl, hd⟩ := hrel
    clear v1 v2 v3 e1 e2 e3 e4 z1 z2 z3 HM1 HM2 HCU q1 q2 b0 b1 b2 b3 b4 hW10 HD9 HDA
    by_cases hlt : i < 2
    · have hlt2 : (i : Int) < 2 := by omega
      have HC : Hid (Calls Try.prog 12 #[.pointer (some ⟨p, 0, none⟩)] wr fun e w' => e = .returned (.bool true) ∧ w' = wr) := ds_down hd.out
      go_wp2_with fail
      refine HC.out.mono ?_
      rintro e wz ⟨rfl, hz⟩
      rw [hz]
      clear hz wz HC
      go_wp2_with fail
      have HC : Hid (Calls Try.prog 13 #[.pointer (some ⟨p, 0, none⟩)] wr fun e w' => e = .returned (.int .i64 0) ∧ DS W0.heap.size W0 w' p (pS5 X Y Z k false)) := by
        have := ds_up (Nat.le_refl _) hd.out
        exact this
      refine HC.out.mono ?_
      rintro e w11 ⟨rfl, hd⟩
      have HD11 : Hid (DS W0.heap.size W0 w11 p (pS5 X Y Z k false)) := hd
      clear hd HC
      go_wp2_with fail
      refine (HNU.out _ _).mono ?_
      rintro e wz ⟨rfl, hz⟩
      rw [hz]
      clear hz wz
      go_wp2_with fail
      have HC : Hid (Calls Try.prog 12 #[.pointer (some ⟨p, 0, none⟩)] w11 fun e w' => e = .returned (.bool false) ∧ w' = w11) := ds_down HD11.out
      refine HC.out.mono ?_
      rintro e wz ⟨rfl, hz⟩
      rw [hz]
      clear hz wz HC
      go_wp2_with fail
      refine (ds_files (Nat.le_refl _) HD11.out (ok5 X Y Z HL.out k false) (len5 X Y Z k) (nm5 X Y Z k)).mono ?_
      rintro e w12 ⟨hfs, hd12⟩
      have t1 : ((⟨#[97]⟩ : ByteArray) != ⟨#[97]⟩) = false := by decide
      have t2 : (sW != sW) = false := str_ne_self sW
      have t3 : ((sW.size : Int) != (sW.size : Int)) = false := bne_self_eq_false _
      have t4 : (sO != sO) = false := str_ne_self sO
      have t5 : ((⟨#[98]⟩ : ByteArray) != ⟨#[98]⟩) = false := by decide
      clear hd HD11
      by_cases hz0 : wantB Z k = []
      · have hz : Hid (wantB Z k = []) := hz0
        have hs0 : sO = ⟨#[]⟩ := by rw [HSO.out, hz0]
        have u1 : (sO == (⟨#[]⟩ : ByteArray)) = true := by rw [hs0]; decide
        have u2 : (sO != (⟨#[]⟩ : ByteArray)) = false := by rw [hs0]; decide
        have u3 : sO.toList.isEmpty = true := by rw [hs0]; exact congrArg List.isEmpty (str_list [])
        clear hz0 hs0
        obtain ⟨g, cap, v, rfl, hc1, hc2, f0, f1, f2, hok⟩ := files_one (hfs1 X Y Z k hz.out) hfs
        have f8 := conv_bytes hok.row
        replace f0 : w12.cell? ⟨g, 0, none⟩ = some (.string ⟨#[97]⟩) := f0
        replace f8 : (convert 22 9 (.slice v.a v.n v.cap)).run Try.prog w12 = .ok (.string sW) w12 := by rw [HSW.out]; exact f8
        replace f2 : w12.cell? ⟨g, 2, none⟩ = some (.int .i64 (sW.size : Int)) := by rw [HSW.out, str_size]; exact f2
        have HD12 : Hid (DS W0.heap.size W0 w12 p (pS5 X Y Z k false)) := hd12
        clear hok hfs hd12
        go_wp2_with fail
        have HC : Hid (Calls Try.prog 11 #[.pointer (some ⟨p, 0, none⟩), .int .i64 0] w12 fun e w' => e = .returned (.int .i64 0) ∧ DS W0.heap.size W0 w' p (pS5 X Y Z k true)) := by
          have := ds_crash (Nat.le_refl _) HD12.out (ok5 X Y Z HL.out k false) rfl 0 (by decide)
          rw [crash65] at this
          exact this
        refine HC.out.mono ?_
        rintro e w13 ⟨rfl, hd⟩
        have HD13 : Hid (DS W0.heap.size W0 w13 p (pS5 X Y Z k true)) := hd
        clear hd HC
        go_wp2_with fail
        go_roundw
        case rel => exact ⟨i + 1, by omega, by go_num, HD13.out⟩
        case measure => simp [RowKit.intOf]; omega
      · have hz : Hid (¬ wantB Z k = []) := hz0
        have u1 : (sO == (⟨#[]⟩ : ByteArray)) = false := by rw [HSO.out]; exact bytes_ne hz0
        have u2 : (sO != (⟨#[]⟩ : ByteArray)) = true := by rw [bne, u1]; rfl
        have u3 : sO.toList.isEmpty = false := by rw [HSO.out, str_list]; cases hq : wantB Z k with | nil => exact absurd hq hz0 | cons => rfl
        clear hz0
        obtain ⟨g, cap, v, u, rfl, hc1, hc2, f0, f1, f2, hok, f3, f4, f5, hok2⟩ := files_two (hfs2 X Y Z k hz.out) ab_lt hfs
        have f8 := conv_bytes hok.row
        have f9 := conv_bytes hok2.row
        replace f3 : w12.cell? ⟨g, 3, none⟩ = some (.string ⟨#[98]⟩) := f3
        replace f9 : (convert 22 9 (.slice u.a u.n u.cap)).run Try.prog w12 = .ok (.string sO) w12 := by rw [HSO.out]; exact f9
        clear f5 hok2
        replace f0 : w12.cell? ⟨g, 0, none⟩ = some (.string ⟨#[97]⟩) := f0
        replace f8 : (convert 22 9 (.slice v.a v.n v.cap)).run Try.prog w12 = .ok (.string sW) w12 := by rw [HSW.out]; exact f8
        replace f2 : w12.cell? ⟨g, 2, none⟩ = some (.int .i64 (sW.size : Int)) := by rw [HSW.out, str_size]; exact f2
        have HD12 : Hid (DS W0.heap.size W0 w12 p (pS5 X Y Z k false)) := hd12
        clear hok hfs hd12
        go_wp2_with fail
        have HC : Hid (Calls Try.prog 11 #[.pointer (some ⟨p, 0, none⟩), .int .i64 0] w12 fun e w' => e = .returned (.int .i64 0) ∧ DS W0.heap.size W0 w' p (pS5 X Y Z k true)) := by
          have := ds_crash (Nat.le_refl _) HD12.out (ok5 X Y Z HL.out k false) rfl 0 (by decide)
          rw [crash65] at this
          exact this
        refine HC.out.mono ?_
        rintro e w13 ⟨rfl, hd⟩
        have HD13 : Hid (DS W0.heap.size W0 w13 p (pS5 X Y Z k true)) := hd
        clear hd HC
        go_wp2_with fail
        go_roundw
        case rel => exact ⟨i + 1, by omega, by go_num, HD13.out⟩
        case measure => simp [RowKit.intOf]; omega
    · obtain rfl : i = 2 := by omega
      go_wp2_with fail
      go_ret
      exact ⟨rfl, HWW.out _ hd.out.below⟩
set_option maxHeartbeats 8000000 in
theorem diskPrefix_false {w : World} (X Y Z : List UInt8) {xa ya za : Option Addr} {xc yc zc : Nat} (hX : Rw byU 1 w xa X.length xc X) (hY : Rw byU 1 w ya Y.length yc Y) (hZ : Rw byU 1 w za Z.length zc Z) (K : Int) (hK : K ≤ 9223372036854775807) (hl : X.length + Y.length + Z.length ≤ 1048576) :
    Calls Try.prog 3 #[.agg #[.slice xa X.length xc, .slice ya Y.length yc, .slice za Z.length zc, .int .i64 K, .bool false]] w fun e w' => e = .returned (.bool true) ∧ Below w.heap.size w w' := by
  obtain ⟨k, hk⟩ : ∃ k : Nat, max K 0 = (k : Int) := ⟨(max K 0).toNat, by omega⟩
  have hk2 : k ≤ 9223372036854775807 := by omega
  have HMX : ∀ ats ty W, (Builtin.max_ ats ty #[.int .i64 K, .int .i64 0]).run Try.prog W = .ok (.int .i64 (k : Int)) W := fun ats ty W => by rw [max_run, hk]
  obtain ⟨W0, hW0⟩ : ∃ W0, w.alloc (.cells #[.slice xa X.length xc, .slice ya Y.length yc, .slice za Z.length zc, .int .i64 K, .bool false] 24) = W0 := ⟨_, rfl⟩
  have hW0s : W0.heap.size = w.heap.size + 1 := by rw [← hW0, World.size_alloc]
  have hW0w : Below w.heap.size w W0 := by rw [← hW0]; exact (Below.refl _ _).alloc (Nat.le_refl _) _
  have hW0h : W0.heap[w.heap.size]? = some (.cells #[.slice xa X.length xc, .slice ya Y.length yc, .slice za Z.length zc, .int .i64 K, .bool false] 24) := by rw [← hW0]; exact (MapKept.heap_alloc w _).1
  have HQ : Hid (w.heap.size < W0.heap.size) := by rw [Hid, hW0s]; exact Nat.lt_succ_self _
  have hWW : ∀ W, Below W0.heap.size W0 W → Below w.heap.size w W := fun W hb => hW0w.trans (hb.mono (by omega))
  have HWW : Hid (∀ W, Below W0.heap.size W0 W → Below w.heap.size w W) := hWW
  have HRX : Hid (∀ W, Below W0.heap.size W0 W → Rw byU 1 W xa X.length xc X) := fun W hb => hX.below (hWW W hb)
  have HRY : Hid (∀ W, Below W0.heap.size W0 W → Rw byU 1 W ya Y.length yc Y) := fun W hb => hY.below (hWW W hb)
  have HRZ : Hid (∀ W, Below W0.heap.size W0 W → Rw byU 1 W za Z.length zc Z) := fun W hb => hZ.below (hWW W hb)
  have HL : Hid (X.length + Y.length + Z.length ≤ 1048576) := hl
  have HKK : Hid (k ≤ 9223372036854775807) := hk2
  have HW0 : Hid (W0.heap[w.heap.size]? = some (.cells #[.slice xa X.length xc, .slice ya Y.length yc, .slice za Z.length zc, .int .i64 K, .bool false] 24)) := hW0h
  obtain ⟨n1, hn1⟩ : ∃ n : Nat, n = X.length + Y.length := ⟨_, rfl⟩
  obtain ⟨n2, hn2⟩ : ∃ n : Nat, n = X.length + Y.length + Z.length := ⟨_, rfl⟩
  obtain ⟨n3, hn3⟩ : ∃ n : Nat, n = X.length + Y.length + Z.length + 2 := ⟨_, rfl⟩
  have HN3 : Hid (n3 = X.length + Y.length + Z.length + 2) := hn3
  have g1 : IntKind.i64.wrap ((X.length : Int) + (Y.length : Int)) = (n1 : Int) := by rw [IntWalk.i64_in _ (by omega)]; omega
  have g2 : IntKind.i64.wrap ((n1 : Int) + (Z.length : Int)) = (n2 : Int) := by rw [IntWalk.i64_in _ (by omega)]; omega
  have g3 : IntKind.i64.wrap ((n2 : Int) + 2) = (n3 : Int) := by rw [IntWalk.i64_in _ (by omega)]; omega
  have HNU : Hid (∀ x w, Calls Try.prog 6 #[.int .i64 x] w fun e w' => e = .returned (.int .i64 x) ∧ w' = w) := num_any
  obtain ⟨b0, b1, b2, b3, b4⟩ := box5 hW0h
  clear hX hY hZ hK hl hk hk2 hW0s hW0w hWW hW0h hn1 hn2 hn3
  go_enter Try.func3, Try.ntmps3
  go_wp2_with fail
  refine (ds_new (Nat.le_refl _) (Below.refl W0.heap.size W0) n3 (by have := HL.out; have := HN3.out; omega)).mono ?_
  rintro e w1 ⟨p, rfl, hd1⟩
  have HD1 : Hid (DS W0.heap.size W0 w1 p (pS0 X Y Z)) := by rw [HN3.out] at hd1; exact hd1
  clear hd1 b0 b1 b2 b3 b4 g1 g2 g3 hW0
  go_wp2_with fail
  refine (HNU.out _ _).mono ?_
  rintro e wz ⟨rfl, hz⟩
  rw [hz]
  clear hz wz
  obtain ⟨b0, b1, b2, b3, b4⟩ := bx5 HW0.out HD1.out.below HQ.out
  obtain ⟨a5, c5, wa, hr5, ho5, hb5⟩ := lit_append w1 33 33 rfl (HRX.out w1 HD1.out.below) (by have := HL.out; omega)
  have hcv := Lib.run_convert_bytes_const (P := Try.prog) w1 22 5 #[.int .u8 33] 1 1 Try.underlying22 Try.underlying5
  have HO5 : Hid (Rw byU 1 wa a5 (X.length + 1) c5 (33 :: X) ∧ Below w1.heap.size w1 wa) := ⟨ho5, hb5⟩
  obtain ⟨V5, hV5⟩ : ∃ V5, w1.alloc (.cells #[.int .u8 33] 5 (1, 2)) = V5 := ⟨_, rfl⟩
  replace hcv : (convert 22 22 (.slice (some ⟨w1.heap.size, 0, none⟩) 1 1)).run Try.prog (w1.alloc (.cells #[.int .u8 33] 5)) = .ok (.slice (some ⟨w1.heap.size, 0, none⟩) 1 1) V5 := by rw [← hV5]; exact hcv
  rw [hV5] at hr5
  have hbV : Below w1.heap.size w1 V5 := by rw [← hV5]; exact (Below.refl _ _).alloc (Nat.le_refl _) _
  obtain ⟨v0, v1, v2, v3, v4⟩ := bx5 HW0.out (HD1.out.grow (Nat.le_refl _) hbV).below HQ.out
  clear ho5 hb5 hV5 hbV
  go_wp2_with (at_builtin; refine wpList_append_hr rfl _ _ 22 rfl _ _ rfl rfl hr5 ?_)
  have HC : Hid (Calls Try.prog 7 #[.pointer (some ⟨p, 0, none⟩), .string ⟨#[97]⟩, .slice a5 (X.length + 1) c5] wa fun e w' => e = .returned (.tuple #[.int .i64 ((X.length + 1 : Nat) : Int), .int .i64 0]) ∧ DS W0.heap.size W0 w' p (pS1 X Y Z)) := by
    have := ds_append (Nat.le_refl _) (HD1.out.grow (Nat.le_refl _) HO5.out.2) (ok0 X Y Z HL.out) na (rdy rfl ok_na) (by decide) HO5.out.1
    rw [step01] at this
    exact this
  refine HC.out.mono ?_
  rintro e w2 ⟨rfl, hd⟩
  have HD2 : Hid (DS W0.heap.size W0 w2 p (pS1 X Y Z)) := hd
  clear hd HC hr5 hcv v0 v1 v2 v3 v4 b0 b1 b2 b3 b4 HO5 V5 HMX
  go_wp2_with fail
  have HC : Hid (Calls Try.prog 8 #[.pointer (some ⟨p, 0, none⟩), .string ⟨#[97]⟩] w2 fun e w' => e = .returned (.int .i64 0) ∧ DS W0.heap.size W0 w' p (pS2 X Y Z)) := by
    have := ds_sync (Nat.le_refl _) HD2.out na (rdy rfl ok_na) (by decide) rfl ⟨_, List.mem_cons_self .., rfl⟩
    rw [step12] at this
    exact this
  refine HC.out.mono ?_
  rintro e w3 ⟨rfl, hd⟩
  have HD3 : Hid (DS W0.heap.size W0 w3 p (pS2 X Y Z)) := hd
  clear hd HC
  obtain ⟨b0, b1, b2, b3, b4⟩ := bx5 HW0.out HD3.out.below HQ.out
  obtain ⟨a5, c5, wa, hr5, ho5, hb5⟩ := lit_append w3 63 63 rfl (HRZ.out w3 HD3.out.below) (by have := HL.out; omega)
  have hcv := Lib.run_convert_bytes_const (P := Try.prog) w3 22 5 #[.int .u8 63] 1 1 Try.underlying22 Try.underlying5
  have HO5 : Hid (Rw byU 1 wa a5 (Z.length + 1) c5 (63 :: Z) ∧ Below w3.heap.size w3 wa) := ⟨ho5, hb5⟩
  obtain ⟨V5, hV5⟩ : ∃ V5, w3.alloc (.cells #[.int .u8 63] 5 (1, 2)) = V5 := ⟨_, rfl⟩
  replace hcv : (convert 22 22 (.slice (some ⟨w3.heap.size, 0, none⟩) 1 1)).run Try.prog (w3.alloc (.cells #[.int .u8 63] 5)) = .ok (.slice (some ⟨w3.heap.size, 0, none⟩) 1 1) V5 := by rw [← hV5]; exact hcv
  rw [hV5] at hr5
  have hbV : Below w3.heap.size w3 V5 := by rw [← hV5]; exact (Below.refl _ _).alloc (Nat.le_refl _) _
  obtain ⟨v0, v1, v2, v3, v4⟩ := bx5 HW0.out (HD3.out.grow (Nat.le_refl _) hbV).below HQ.out
  clear ho5 hb5 hV5 hbV
  go_wp2_with (at_builtin; refine wpList_append_hr rfl _ _ 22 rfl _ _ rfl rfl hr5 ?_)
  have HC : Hid (Calls Try.prog 7 #[.pointer (some ⟨p, 0, none⟩), .string ⟨#[98]⟩, .slice a5 (Z.length + 1) c5] wa fun e w' => e = .returned (.tuple #[.int .i64 ((Z.length + 1 : Nat) : Int), .int .i64 0]) ∧ DS W0.heap.size W0 w' p (pS3 X Y Z 0 0)) := by
    have := ds_append (Nat.le_refl _) (HD3.out.grow (Nat.le_refl _) HO5.out.2) (ok2 X Y Z HL.out) nb (rdy rfl ok_nb) (by decide) HO5.out.1
    rw [step23] at this
    exact this
  refine HC.out.mono ?_
  rintro e w4 ⟨rfl, hd⟩
  have HD4 : Hid (DS W0.heap.size W0 w4 p (pS3 X Y Z 0 0)) := hd
  clear hd HC hr5 hcv v0 v1 v2 v3 v4 b0 b1 b2 b3 b4 HO5 V5
  obtain ⟨b0, b1, b2, b3, b4⟩ := bx5 HW0.out HD4.out.below HQ.out
  go_wp2_with fail
  refine (copied_any (HRY.out _ HD4.out.below) (by have := HL.out; omega)).mono ?_
  rintro e w6 ⟨a6, c6, rfl, ho6, hb6⟩
  have HD6 : Hid (DS W0.heap.size W0 w6 p (pS3 X Y Z 0 0)) := HD4.out.grow (Nat.le_refl _) hb6
  have HO6 : Hid (Rw byU 1 w6 a6 Y.length c6 Y) := ho6.rw_ layU
  clear ho6 hb6 b0 b1 b2 b3 b4
  go_wp2_with fail
  have HC : Hid (Calls Try.prog 7 #[.pointer (some ⟨p, 0, none⟩), .string ⟨#[97]⟩, .slice a6 Y.length c6] w6 fun e w' => e = .returned (.tuple #[.int .i64 (Y.length : Int), .int .i64 0]) ∧ DS W0.heap.size W0 w' p (pS4 X Y Z)) := by
    have := ds_append (Nat.le_refl _) HD6.out (ok3 X Y Z HL.out 0 0 (by decide) (by decide)) na (rdy rfl ok_na) (by decide) HO6.out
    rw [step34] at this
    exact this
  refine HC.out.mono ?_
  rintro e w7 ⟨rfl, hd⟩
  have HD7 : Hid (DS W0.heap.size W0 w7 p (pS4 X Y Z)) := hd
  clear hd HC HO6
  go_wp2_with fail
  have HC : Hid (Calls Try.prog 11 #[.pointer (some ⟨p, 0, none⟩), .int .i64 (k : Int)] w7 fun e w' => e = .returned (.int .i64 0) ∧ DS W0.heap.size W0 w' p (pS5 X Y Z k true)) := by
    have := ds_crash (Nat.le_refl _) HD7.out (ok4 X Y Z HL.out) rfl k HKK.out
    rw [show crashP k (pS4 X Y Z) = pS5 X Y Z k true from crash45 X Y Z 0 0 k] at this
    exact this
  refine HC.out.mono ?_
  rintro e w9 ⟨rfl, hd⟩
  have HD9 : Hid (DS W0.heap.size W0 w9 p (pS5 X Y Z k true)) := hd
  clear hd HC
  have hyy : ((Y.length : Int) != (Y.length : Int)) = false := bne_self_eq_false _
  obtain ⟨b0, b1, b2, b3, b4⟩ := bx5 HW0.out HD9.out.below HQ.out
  go_wp2_with fail
  refine (HNU.out _ _).mono ?_
  rintro e wz ⟨rfl, hz⟩
  rw [hz]
  clear hz wz
  go_wp2_with fail
  refine (HNU.out _ _).mono ?_
  rintro e wz ⟨rfl, hz⟩
  rw [hz]
  clear hz wz
  go_wp2_with fail
  obtain ⟨W10, hW10⟩ : ∃ W10, w9.drew = W10 := ⟨_, rfl⟩
  have hbW : Below w9.heap.size w9 W10 := by rw [← hW10]; exact (Below.refl _ _).drew
  have HDA : Hid (DS W0.heap.size W0 W10 p (pS5 X Y Z k true)) := HD9.out.grow (Nat.le_refl _) hbW
  clear b0 b1 b2 b3 b4 hbW
  obtain ⟨b0, b1, b2, b3, b4⟩ := bx5 HW0.out HDA.out.below HQ.out
  obtain ⟨my, hmy⟩ : ∃ m : Nat, m = min k Y.length := ⟨_, rfl⟩
  have HM1 : ∀ ats ty W, (Builtin.min_ ats ty #[.int .i64 (k : Int), .int .i64 (Y.length : Int)]).run Try.prog W = .ok (.int .i64 (my : Int)) W := fun ats ty W => by rw [min_run]; congr 2; omega
  have hyr := HRY.out W10 HDA.out.below
  have hyroom := hyr.room
  have HCU : ∀ W : World, (Instr.slice 22 (.slice ya Y.length yc) none (some (.int .i64 (my : Int))) none).run Try.prog W = .ok (.slice ya my yc) W := fun W => cutU W ya _ yc my (by omega)
  obtain ⟨sX, hsX⟩ : ∃ s : ByteArray, s = ⟨X.toArray⟩ := ⟨_, rfl⟩
  obtain ⟨sY, hsY⟩ : ∃ s : ByteArray, s = ⟨(Y.take my).toArray⟩ := ⟨_, rfl⟩
  obtain ⟨sZ, hsZ⟩ : ∃ s : ByteArray, s = ⟨Z.toArray⟩ := ⟨_, rfl⟩
  obtain ⟨s1, hs1⟩ : ∃ s : ByteArray, s = ⟨(33 :: X).toArray⟩ := ⟨_, rfl⟩
  obtain ⟨sW, hsW⟩ : ∃ s : ByteArray, s = ⟨(wantA X Y k).toArray⟩ := ⟨_, rfl⟩
  obtain ⟨s2, hs2⟩ : ∃ s : ByteArray, s = ⟨(63 :: Z).toArray⟩ := ⟨_, rfl⟩
  obtain ⟨sO, hsO⟩ : ∃ s : ByteArray, s = ⟨(wantB Z k).toArray⟩ := ⟨_, rfl⟩
  have v1 := conv_bytes (HRX.out W10 HDA.out.below)
  have v2 := conv_bytes (hyr.take my (by omega))
  have v3 := conv_bytes (HRZ.out W10 HDA.out.below)
  rw [← hsX] at v1
  rw [← hsY] at v2
  rw [← hsZ] at v3
  have e1 : (⟨#[33]⟩ : ByteArray) ++ sX = s1 := by rw [hsX, hs1]; exact str_cat [33] X
  have e2 : s1 ++ sY = sW := by rw [hs1, hsY, hsW, str_cat, hmy, take_min]; rfl
  have e3 : (⟨#[63]⟩ : ByteArray) ++ sZ = s2 := by rw [hsZ, hs2]; exact str_cat [63] Z
  obtain ⟨mz, hmz⟩ : ∃ m : Nat, m = min k (Z.length + 1) := ⟨_, rfl⟩
  have hz2 : s2.size = Z.length + 1 := by rw [hs2, str_size]; rfl
  have e4 : s2.extract 0 mz = sO := by rw [hs2, hsO, hmz]; exact str_take Z k
  have HM2 : ∀ ats ty W, (Builtin.min_ ats ty #[.int .i64 (k : Int), .int .i64 (s2.size : Int)]).run Try.prog W = .ok (.int .i64 (mz : Int)) W := fun ats ty W => by rw [min_run, hz2]; congr 2; omega
  have z1 : ¬ 9223372036854775807 < 1 + sX.size := by rw [hsX, str_size]; have := HL.out; omega
  have z2 : ¬ 9223372036854775807 < s1.size + sY.size := by rw [hs1, hsY, str_size, str_size, List.length_take, List.length_cons]; have := HL.out; omega
  have z3 : ¬ 9223372036854775807 < 1 + sZ.size := by rw [hsZ, str_size]; have := HL.out; omega
  have q1 : (mz : Int) ≤ (s2.size : Int) := by rw [hz2]; omega
  have q2 : (0 : Int) ≤ (mz : Int) := by omega
  have HSW : Hid (sW = ⟨(wantA X Y k).toArray⟩) := hsW
  have HSO : Hid (sO = ⟨(wantB Z k).toArray⟩) := hsO
  have HZS : Hid (s2.size ≤ 1048577 ∧ s1.size ≤ 1048577 ∧ sW.size ≤ 2097152) := by
    have := HL.out
    refine ⟨by omega, by rw [hs1, str_size]; simp; omega, ?_⟩
    rw [hsW, str_size]
    simp only [wantA, List.length_append, List.length_cons, List.length_take]
    omega
  clear hyr hyroom hsX hsY hsZ hs1 hsW hs2 hsO hmy hmz hz2
  refine wp_region_held_drew (S := (fun W => W = W10)) (by kernel_rfl) ?hS17 (fun hHeld => ?rest17)
  case hS17 => exact hW10
  refine takeD (i := 0) (d := some 109) (v := ?vT18) rfl rfl (by kernel_rfl) (by kernel_rfl) (by kernel_rfl) (fun _ _ _ h => h) (Or.inl ⟨by rfl, ?hyT18⟩) (by assumption) ?rstT18
  case hyT18 => (intro w hSw; (try dsimp only at hSw); go_simp; (try with_reducible rfl))
  try simp only [Act.put, List.setIfInBounds_toArray, List.set_cons_zero, List.set_cons_succ]
  refine takeD (i := 1) (d := some 110) (v := ?vT19) rfl rfl (by kernel_rfl) (by kernel_rfl) (by kernel_rfl) (fun _ _ _ h => h) (Or.inl ⟨by rfl, ?hyT19⟩) (by assumption) ?rstT19
  case hyT19 => (intro w hSw; (try dsimp only at hSw); go_simp; (try with_reducible rfl))
  try simp only [Act.put, List.setIfInBounds_toArray, List.set_cons_zero, List.set_cons_succ]
  refine takeD (i := 2) (d := some 111) (v := ?vT20) rfl rfl (by kernel_rfl) (by kernel_rfl) (by kernel_rfl) (fun _ _ _ h => h) (Or.inl ⟨by rfl, ?hyT20⟩) (by assumption) ?rstT20
  case hyT20 => (intro w hSw; (try dsimp only at hSw); go_simp; (try with_reducible rfl))
  try simp only [Act.put, List.setIfInBounds_toArray, List.set_cons_zero, List.set_cons_succ]
  refine takeD (i := 3) (d := some 112) (v := ?vT21) rfl rfl (by kernel_rfl) (by kernel_rfl) (by kernel_rfl) (fun _ _ _ h => h) (Or.inl ⟨by rfl, ?hyT21⟩) (by assumption) ?rstT21
  case hyT21 => (intro w hSw; (try dsimp only at hSw); go_simp; (try with_reducible rfl))
  try simp only [Act.put, List.setIfInBounds_toArray, List.set_cons_zero, List.set_cons_succ]
  refine takeD (i := 4) (d := some 113) (v := ?vT22) rfl rfl (by kernel_rfl) (by kernel_rfl) (by kernel_rfl) (fun _ _ _ h => h) (Or.inl ⟨by rfl, ?hyT22⟩) (by assumption) ?rstT22
  case hyT22 => (intro w hSw; (try dsimp only at hSw); go_simp; (try with_reducible rfl))
  try simp only [Act.put, List.setIfInBounds_toArray, List.set_cons_zero, List.set_cons_succ]
  refine takeD (i := 5) (d := some 114) (v := ?vT23) rfl rfl (by kernel_rfl) (by kernel_rfl) (by kernel_rfl) (fun _ _ _ h => h) (Or.inl ⟨by rfl, ?hyT23⟩) (by assumption) ?rstT23
  case hyT23 => (intro w hSw; (try dsimp only at hSw); go_simp; (try with_reducible rfl))
  try simp only [Act.put, List.setIfInBounds_toArray, List.set_cons_zero, List.set_cons_succ]
  refine takeD (i := 6) (d := some 115) (v := ?vT24) rfl rfl (by kernel_rfl) (by kernel_rfl) (by kernel_rfl) (fun _ _ _ h => h) (Or.inl ⟨by rfl, ?hyT24⟩) (by assumption) ?rstT24
  case hyT24 => (intro w hSw; (try dsimp only at hSw); go_simp; (try with_reducible rfl))
  try simp only [Act.put, List.setIfInBounds_toArray, List.set_cons_zero, List.set_cons_succ]
  refine takeD (i := 7) (d := some 116) (v := ?vT25) rfl rfl (by kernel_rfl) (by kernel_rfl) (by kernel_rfl) (fun _ _ _ h => h) (Or.inl ⟨by rfl, ?hyT25⟩) (by assumption) ?rstT25
  case hyT25 => (intro w hSw; (try dsimp only at hSw); go_simp; (try with_reducible rfl))
  try simp only [Act.put, List.setIfInBounds_toArray, List.set_cons_zero, List.set_cons_succ]
  refine takeD (i := 8) (d := some 117) (v := ?vT26) rfl rfl (by kernel_rfl) (by kernel_rfl) (by kernel_rfl) (fun _ _ _ h => h) (Or.inl ⟨by rfl, ?hyT26⟩) (by assumption) ?rstT26
  case hyT26 => (intro w hSw; (try dsimp only at hSw); go_simp; (try with_reducible rfl))
  try simp only [Act.put, List.setIfInBounds_toArray, List.set_cons_zero, List.set_cons_succ]
  refine takeD (i := 9) (d := some 118) (v := ?vT27) rfl rfl (by kernel_rfl) (by kernel_rfl) (by kernel_rfl) (fun _ _ _ h => h) (Or.inl ⟨by rfl, ?hyT27⟩) (by assumption) ?rstT27
  case hyT27 => (intro w hSw; (try dsimp only at hSw); go_simp; (try with_reducible rfl))
  try simp only [Act.put, List.setIfInBounds_toArray, List.set_cons_zero, List.set_cons_succ]
  refine takeD (i := 10) (d := some 119) (v := ?vT28) rfl rfl (by kernel_rfl) (by kernel_rfl) (by kernel_rfl) (fun _ _ _ h => h) (Or.inl ⟨by rfl, ?hyT28⟩) (by assumption) ?rstT28
  case hyT28 => (intro w hSw; (try dsimp only at hSw); go_simp; (try with_reducible rfl))
  try simp only [Act.put, List.setIfInBounds_toArray, List.set_cons_zero, List.set_cons_succ]
  refine takeD (i := 11) (d := some 120) (v := ?vT29) rfl rfl (by kernel_rfl) (by kernel_rfl) (by kernel_rfl) (fun _ _ _ h => h) (Or.inl ⟨by rfl, ?hyT29⟩) (by assumption) ?rstT29
  case hyT29 => (intro w hSw; (try dsimp only at hSw); go_simp; (try with_reducible rfl))
  try simp only [Act.put, List.setIfInBounds_toArray, List.set_cons_zero, List.set_cons_succ]
  refine takeD (i := 12) (d := some 121) (v := ?vT30) rfl rfl (by kernel_rfl) (by kernel_rfl) (by kernel_rfl) (fun _ _ _ h => h) (Or.inl ⟨by rfl, ?hyT30⟩) (by assumption) ?rstT30
  case hyT30 => (intro w hSw; (try dsimp only at hSw); go_simp; (try with_reducible rfl))
  try simp only [Act.put, List.setIfInBounds_toArray, List.set_cons_zero, List.set_cons_succ]
  refine takeD (i := 13) (d := some 122) (v := ?vT31) rfl rfl (by kernel_rfl) (by kernel_rfl) (by kernel_rfl) (fun _ _ _ h => h) (Or.inl ⟨by rfl, ?hyT31⟩) (by assumption) ?rstT31
  case hyT31 => (intro w hSw; (try dsimp only at hSw); go_simp; (try with_reducible rfl))
  try simp only [Act.put, List.setIfInBounds_toArray, List.set_cons_zero, List.set_cons_succ]
  refine takeD (i := 14) (d := some 12) (v := ?vT32) rfl rfl (by kernel_rfl) (by kernel_rfl) (by kernel_rfl) (fun _ _ _ h => h) (Or.inl ⟨by rfl, ?hyT32⟩) (by assumption) ?rstT32
  case hyT32 => (intro w hSw; (try dsimp only at hSw); go_simp; (try with_reducible rfl))
  try simp only [Act.put, List.setIfInBounds_toArray, List.set_cons_zero, List.set_cons_succ]
  refine wpAnyH_done (by kernel_rfl) ?_ _
  go_wp2_with fail
  clear hHeld
  go_loopw [14] (fun v wr => ∃ i : Nat, i ≤ 2 ∧ v = .int .i64 (i : Int) ∧ Hid (DS W0.heap.size W0 wr p (pS5 X Y Z k true))) (fun v _ => 2 - (RowKit.intOf v).toNat)
  case atStart => exact ⟨0, by omega, rfl, HDA.out⟩
  case round =>
    obtain ⟨i, hi, rfl, hd⟩ := hrel
    clear v1 v2 v3 e1 e2 e3 e4 z1 z2 z3 HM1 HM2 HCU q1 q2 b0 b1 b2 b3 b4 hW10 HD9 HDA
    by_cases hlt : i < 2
    · have hlt2 : (i : Int) < 2 := by omega
      have HC : Hid (Calls Try.prog 12 #[.pointer (some ⟨p, 0, none⟩)] wr fun e w' => e = .returned (.bool true) ∧ w' = wr) := ds_down hd.out
      go_wp2_with fail
      refine HC.out.mono ?_
      rintro e wz ⟨rfl, hz⟩
      rw [hz]
      clear hz wz HC
      go_wp2_with fail
      have HC : Hid (Calls Try.prog 13 #[.pointer (some ⟨p, 0, none⟩)] wr fun e w' => e = .returned (.int .i64 0) ∧ DS W0.heap.size W0 w' p (pS5 X Y Z k false)) := by
        have := ds_up (Nat.le_refl _) hd.out
        exact this
      refine HC.out.mono ?_
      rintro e w11 ⟨rfl, hd⟩
      have HD11 : Hid (DS W0.heap.size W0 w11 p (pS5 X Y Z k false)) := hd
      clear hd HC
      go_wp2_with fail
      refine (HNU.out _ _).mono ?_
      rintro e wz ⟨rfl, hz⟩
      rw [hz]
      clear hz wz
      go_wp2_with fail
      have HC : Hid (Calls Try.prog 12 #[.pointer (some ⟨p, 0, none⟩)] w11 fun e w' => e = .returned (.bool false) ∧ w' = w11) := ds_down HD11.out
      refine HC.out.mono ?_
      rintro e wz ⟨rfl, hz⟩
      rw [hz]
      clear hz wz HC
      go_wp2_with fail
      refine (ds_files (Nat.le_refl _) HD11.out (ok5 X Y Z HL.out k false) (len5 X Y Z k) (nm5 X Y Z k)).mono ?_
      rintro e w12 ⟨hfs, hd12⟩
      have t1 : ((⟨#[97]⟩ : ByteArray) != ⟨#[97]⟩) = false := by decide
      have t2 : (sW != sW) = false := str_ne_self sW
      have t3 : ((sW.size : Int) != (sW.size : Int)) = false := bne_self_eq_false _
      have t4 : (sO != sO) = false := str_ne_self sO
      have t5 : ((⟨#[98]⟩ : ByteArray) != ⟨#[98]⟩) = false := by decide
      clear hd HD11
      by_cases hz0 : wantB Z k = []
      · have hz : Hid (wantB Z k = []) := hz0
        have hs0 : sO = ⟨#[]⟩ := by rw [HSO.out, hz0]
        have u1 : (sO == (⟨#[]⟩ : ByteArray)) = true := by rw [hs0]; decide
        have u2 : (sO != (⟨#[]⟩ : ByteArray)) = false := by rw [hs0]; decide
        have u3 : sO.toList.isEmpty = true := by rw [hs0]; exact congrArg List.isEmpty (str_list [])
        clear hz0 hs0
        obtain ⟨g, cap, v, rfl, hc1, hc2, f0, f1, f2, hok⟩ := files_one (hfs1 X Y Z k hz.out) hfs
        have f8 := conv_bytes hok.row
        replace f0 : w12.cell? ⟨g, 0, none⟩ = some (.string ⟨#[97]⟩) := f0
        replace f8 : (convert 22 9 (.slice v.a v.n v.cap)).run Try.prog w12 = .ok (.string sW) w12 := by rw [HSW.out]; exact f8
        replace f2 : w12.cell? ⟨g, 2, none⟩ = some (.int .i64 (sW.size : Int)) := by rw [HSW.out, str_size]; exact f2
        have HD12 : Hid (DS W0.heap.size W0 w12 p (pS5 X Y Z k false)) := hd12
        clear hok hfs hd12
        go_wp2_with fail
        have HC : Hid (Calls Try.prog 11 #[.pointer (some ⟨p, 0, none⟩), .int .i64 0] w12 fun e w' => e = .returned (.int .i64 0) ∧ DS W0.heap.size W0 w' p (pS5 X Y Z k true)) := by
          have := ds_crash (Nat.le_refl _) HD12.out (ok5 X Y Z HL.out k false) rfl 0 (by decide)
          rw [crash65] at this
          exact this
        refine HC.out.mono ?_
        rintro e w13 ⟨rfl, hd⟩
        have HD13 : Hid (DS W0.heap.size W0 w13 p (pS5 X Y Z k true)) := hd
        clear hd HC
        go_wp2_with fail
        go_roundw
        case rel => exact ⟨i + 1, by omega, by go_num, HD13.out⟩
        case measure => simp [RowKit.intOf]; omega
      · have hz : Hid (¬ wantB Z k = []) := hz0
        have u1 : (sO == (⟨#[]⟩ : ByteArray)) = false := by rw [HSO.out]; exact bytes_ne hz0
        have u2 : (sO != (⟨#[]⟩ : ByteArray)) = true := by rw [bne, u1]; rfl
        have u3 : sO.toList.isEmpty = false := by rw [HSO.out, str_list]; cases hq : wantB Z k with | nil => exact absurd hq hz0 | cons => rfl
        clear hz0
        obtain ⟨g, cap, v, u, rfl, hc1, hc2, f0, f1, f2, hok, f3, f4, f5, hok2⟩ := files_two (hfs2 X Y Z k hz.out) ab_lt hfs
        have f8 := conv_bytes hok.row
        have f9 := conv_bytes hok2.row
        replace f3 : w12.cell? ⟨g, 3, none⟩ = some (.string ⟨#[98]⟩) := f3
        replace f9 : (convert 22 9 (.slice u.a u.n u.cap)).run Try.prog w12 = .ok (.string sO) w12 := by rw [HSO.out]; exact f9
        clear f5 hok2
        replace f0 : w12.cell? ⟨g, 0, none⟩ = some (.string ⟨#[97]⟩) := f0
        replace f8 : (convert 22 9 (.slice v.a v.n v.cap)).run Try.prog w12 = .ok (.string sW) w12 := by rw [HSW.out]; exact f8
        replace f2 : w12.cell? ⟨g, 2, none⟩ = some (.int .i64 (sW.size : Int)) := by rw [HSW.out, str_size]; exact f2
        have HD12 : Hid (DS W0.heap.size W0 w12 p (pS5 X Y Z k false)) := hd12
        clear hok hfs hd12
        go_wp2_with fail
        have HC : Hid (Calls Try.prog 11 #[.pointer (some ⟨p, 0, none⟩), .int .i64 0] w12 fun e w' => e = .returned (.int .i64 0) ∧ DS W0.heap.size W0 w' p (pS5 X Y Z k true)) := by
          have := ds_crash (Nat.le_refl _) HD12.out (ok5 X Y Z HL.out k false) rfl 0 (by decide)
          rw [crash65] at this
          exact this
        refine HC.out.mono ?_
        rintro e w13 ⟨rfl, hd⟩
        have HD13 : Hid (DS W0.heap.size W0 w13 p (pS5 X Y Z k true)) := hd
        clear hd HC
        go_wp2_with fail
        go_roundw
        case rel => exact ⟨i + 1, by omega, by go_num, HD13.out⟩
        case measure => simp [RowKit.intOf]; omega
    · obtain rfl : i = 2 := by omega
      go_wp2_with fail
      go_ret
      exact ⟨rfl, HWW.out _ hd.out.below⟩
end Go.Proofs.Ythgebpfdnpagmaa
