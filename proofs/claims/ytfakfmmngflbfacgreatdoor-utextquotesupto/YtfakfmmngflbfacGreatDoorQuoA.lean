import Derived.Test.YtfakfmmngflbfacGreatDoorPosT
import Derived.Laws.BytesArg
import Derived.Test.YtfakfmmngflbfacGreatDoorQuotePlain
namespace Go.Proofs.YtfakfmmngflbfacGreatDoor
open Go.RowKit Go.Lib

/-- The one cell of the table of bits that a number to the base 16 reads. -/
structure Deb (w : World) : Prop where
  cell : w.cell? ⟨4, 15, none⟩ = some (.int .u8 4)
theorem Deb.below {w w' : World} (h : Deb w) (hb : Below w.heap.size w w') : Deb w' := by
  refine ⟨(hb.cell (p := ⟨4, 15, none⟩) ?_).trans h.cell⟩
  rcases Nat.lt_or_ge 4 w.heap.size with h2 | h2
  · exact h2
  · have := h.cell
    simp [World.cell?, Array.getElem?_eq_none h2] at this

set_option maxHeartbeats 400000 in
theorem trailing64_16 (w : World) (hd : Deb w) : Calls Tryz.prog 94 #[.int .u64 16] w fun e w' => e = .returned (.int .i64 4) ∧ w' = w := by
  have hc := hd.cell
  have h1 : IntKind.u64.wrap (-16) = 18446744073709551600 := by decide
  have hb : bits .and .u64 16 18446744073709551600 = 16 := by decide
  have h2 : IntKind.u64.wrap 4573923408821661840 = 4573923408821661840 := by decide
  go_enter Tryz.func94, Tryz.ntmps94
  go_wp2_with fail
  go_ret
  exact ⟨rfl, rfl⟩
set_option maxHeartbeats 400000 in
theorem trailing_16 (w : World) (hd : Deb w) : Calls Tryz.prog 89 #[.int .u64 16] w fun e w' => e = .returned (.int .i64 4) ∧ w' = w := by
  go_enter Tryz.func89, Tryz.ntmps89
  go_wp2_with fail
  refine (trailing64_16 _ hd).mono ?_
  rintro e w1 ⟨rfl, rfl⟩
  go_wp2_with fail
  go_ret
  exact ⟨rfl, rfl⟩
set_option maxHeartbeats 400000 in
theorem power_16 (w : World) : Calls Tryz.prog 88 #[.int .i64 16] w fun e w' => e = .returned (.bool true) ∧ w' = w := by
  have hb : bits .and .i64 16 15 = 0 := by decide
  go_enter Tryz.func88, Tryz.ntmps88
  go_wp2_with fail
  go_ret
  exact ⟨rfl, rfl⟩

/-- A digit; the last n digits of a number; how many it has (of those that a rune may have). -/
def hexd (d : Nat) : UInt8 := if d < 10 then UInt8.ofNat (48 + d) else UInt8.ofNat (87 + d)
def hexN (u : Nat) : Nat → List UInt8
  | 0 => []
  | n + 1 => hexd (u / 16 ^ n % 16) :: hexN u n
def ndig (u : Nat) : Nat := if u < 16 then 1 else if u < 256 then 2 else if u < 4096 then 3 else if u < 65536 then 4 else if u < 1048576 then 5 else 6
def hexL (u : Nat) : List UInt8 := hexN u (ndig u)
theorem ndig_of {u j : Nat} (hu : u ≤ 1114111) (h1 : u / 16 ^ j < 16) (h2 : j = 0 ∨ 16 ≤ u / 16 ^ (j - 1)) : ndig u = j + 1 := by
  have hj : j ≤ 5 := by
    rcases h2 with h2 | h2
    · omega
    · rcases Nat.lt_or_ge 5 j with h3 | h3
      · have h4 : 16 ^ 5 ≤ 16 ^ (j - 1) := Nat.pow_le_pow_right (by decide) (by omega)
        have h5 : u / 16 ^ (j - 1) ≤ u / 16 ^ 5 := Nat.div_le_div_left h4 (by decide)
        have h6 : u / 16 ^ 5 ≤ 1114111 / 16 ^ 5 := Nat.div_le_div_right hu
        omega
      · exact h3
  unfold ndig
  have : j = 0 ∨ j = 1 ∨ j = 2 ∨ j = 3 ∨ j = 4 ∨ j = 5 := by omega
  rcases this with rfl | rfl | rfl | rfl | rfl | rfl <;> simp at h1 h2 <;> (repeat' split) <;> omega

theorem alloc_new (w : World) (o : Obj) : (w.alloc o).heap[w.heap.size]? = some o := by
  show (w.heap.push o)[w.heap.size]? = some o
  exact Array.getElem?_push_size
theorem zero65 : Tryz.zeroCells121.size = 65 := by kernel_rfl
theorem mask15 (v : Nat) (h : v ≤ 1114111) : bits .and .u64 (v : Int) 15 = ((v % 16 : Nat) : Int) :=
  (bits_mask .u64 63 (by decide) (fun n h0 h1 => by rw [IntKind.wrap_u64]; omega) 4 (by decide) (v : Int) (by omega) (by omega)).trans (by omega)

theorem hexTab (d : Nat) (h : d < 16) : ∀ h' : d < (⟨#[48, 49, 50, 51, 52, 53, 54, 55, 56, 57, 97, 98, 99, 100, 101, 102, 103, 104, 105, 106, 107, 108, 109, 110, 111, 112, 113, 114, 115, 116, 117, 118, 119, 120, 121, 122]⟩ : ByteArray).size, ((⟨#[48, 49, 50, 51, 52, 53, 54, 55, 56, 57, 97, 98, 99, 100, 101, 102, 103, 104, 105, 106, 107, 108, 109, 110, 111, 112, 113, 114, 115, 116, 117, 118, 119, 120, 121, 122]⟩ : ByteArray)[d]'h').toNat = (hexd d).toNat := by
  have : d = 0 ∨ d = 1 ∨ d = 2 ∨ d = 3 ∨ d = 4 ∨ d = 5 ∨ d = 6 ∨ d = 7 ∨ d = 8 ∨ d = 9 ∨ d = 10 ∨ d = 11 ∨ d = 12 ∨ d = 13 ∨ d = 14 ∨ d = 15 := by omega
  rcases this with rfl | rfl | rfl | rfl | rfl | rfl | rfl | rfl | rfl | rfl | rfl | rfl | rfl | rfl | rfl | rfl <;> intro _ <;> rfl
theorem conv_arr {W : World} {g y n cap : Nat} {cur : Array Value} {T : TypeId} {l : List UInt8} (hh : W.heap[g]? = some (.cells cur T (0, 0))) (hd : cur.toList.drop y = Lib.byteCells l) (hl : l.length = n) :
    (convert 50 9 (.slice (some ⟨g, y, none⟩) n cap)).run Tryz.prog W = .ok (.string ⟨l.toArray⟩) W := by
  have := run_convert_bytes_arg (P := Tryz.prog) W 50 5 Tryz.underlying50 Tryz.underlying5 g y n cap (l.map fun b => (b.toNat : Int)) (by simpa using hl) (fun j hj => by
    have e1 : (cur.toList.drop y)[j]? = (Lib.byteCells l)[j]? := by rw [hd]
    rw [List.getElem?_drop, Array.getElem?_toList] at e1
    simp only [World.cell?, hh]
    rw [e1]
    simp [Lib.byteCells, List.getElem?_eq_getElem (show j < l.length by omega), List.getD_eq_getElem?_getD]) 9 Tryz.underlying9
  rw [this]
  have e : strOfNums (l.map fun b => (b.toNat : Int)) = ⟨l.toArray⟩ := by
    unfold strOfNums
    simp [Function.comp_def]
  rw [e]
theorem set_drop (cur : Array Value) (y : Nat) (v : Value) (l : List Value) (hy : y < cur.size) (h : cur.toList.drop (y + 1) = l) : (cur.setIfInBounds y v).toList.drop y = v :: l := by
  subst h
  rw [Array.toList_setIfInBounds, List.drop_set, if_neg (by omega), Nat.sub_self, List.drop_eq_getElem_cons (by simpa using hy)]
  rfl
theorem hexN_length (u : Nat) : ∀ n, (hexN u n).length = n
  | 0 => rfl
  | n + 1 => by rw [hexN, List.length_cons, hexN_length u n]

set_option maxHeartbeats 2000000 in
set_option maxRecDepth 100000 in
theorem formatBits_16 (u : Nat) (hu : u ≤ 1114111) (w : World) (hd : Deb w) :
    Calls Tryz.prog 80 #[.slice none 0 0, .int .u64 u, .int .i64 16, .bool false, .bool false] w fun e w' => e = .returned (.tuple #[.slice none 0 0, .string ⟨(hexL u).toArray⟩]) ∧ Below w.heap.size w w' := by
  go_enter Tryz.func80, Tryz.ntmps80
  go_wp2_with (go_at_call 88; refine (power_16 _).mono ?_; rintro e w1 ⟨rfl, rfl⟩)
  refine (trailing_16 _ (hd.below ((Below.refl _ _).alloc (Nat.le_refl _) _))).mono ?_
  rintro e w1 ⟨rfl, rfl⟩
  go_wp2_with fail
  go_loopw [1, 13] (fun a i wr => ∃ (j x : Nat) (cur : Array Value), x + j = 65 ∧ j ≤ 5 ∧ a = .int .u64 (u / 16 ^ j : Nat) ∧ i = .int .i64 x ∧ wr.heap[w.heap.size]? = some (.cells cur 121 (0, 0)) ∧ cur.size = 65 ∧ Hid (cur.toList.drop x = byteCells (hexN u j)) ∧ Below w.heap.size w wr ∧ Hid (j = 0 ∨ 16 ≤ u / 16 ^ (j - 1))) (fun a _ _ => (RowKit.intOf a).toNat)
  case atStart =>
    refine ⟨0, 65, _, rfl, by decide, by simp, rfl, ?_, zero65, ?_, (Below.refl _ _).alloc (Nat.le_refl _) _, .inl rfl⟩
    · exact alloc_new _ _
    · show _ = _
      rw [List.drop_eq_nil_of_le (by rw [Array.length_toList, zero65]; decide)]
      rfl
  case round =>
    obtain ⟨j, x, cur, hxj, hj, rfl, rfl, hhp, hsz, HD, hb, HL⟩ := hrel
    have hv : u / 16 ^ j ≤ 1114111 := Nat.le_trans (Nat.div_le_self _ _) hu
    obtain ⟨v, hv0⟩ : ∃ v, u / 16 ^ j = v := ⟨_, rfl⟩
    rw [hv0] at hv
    have HV : Hid (u / 16 ^ j = v) := hv0
    rw [hv0]
    clear hv0
    have hm := mask15 v hv
    obtain ⟨y, rfl⟩ : ∃ y, x = y + 1 := ⟨x - 1, by omega⟩
    have hfr : wr.frozen? ⟨w.heap.size, y, none⟩ = false := by simp [World.frozen?, hhp]
    obtain ⟨v0, hcl⟩ : ∃ v0, wr.cell? ⟨w.heap.size, y, none⟩ = some v0 := ⟨cur[y]'(by omega), by simp [World.cell?, hhp]⟩
    have hal : Tryz.prog.arrayLen 121 = 65 := by kernel_rfl
    have hhp2 : ∀ V, (wr.setCell ⟨w.heap.size, y, none⟩ V).heap[w.heap.size]? = some (.cells (cur.setIfInBounds y V) 121 (0, 0)) := fun V => by simp [World.setCell, Array.getElem?_modify, hhp]
    have hsz2 : ∀ V, (cur.setIfInBounds y V).size = 65 := fun V => by simp [hsz]
    have hyl : y < cur.size := by omega
    have HS : Hid (∀ V, (cur.setIfInBounds y V).toList.drop y = V :: byteCells (hexN u j)) := fun V => set_drop cur y V _ hyl HD.out
    have hB2 : ∀ V, Below w.heap.size w (wr.setCell ⟨w.heap.size, y, none⟩ V) := fun V => hb.setCell (p := ⟨w.heap.size, y, none⟩) (Nat.le_refl _) V
    clear hyl hsz HD hb
    by_cases h16 : 16 ≤ v
    · have hx := hexTab (v % 16) (Nat.mod_lt _ (by decide))
      have HE : Hid (Value.int .u8 ((hexd (v % 16)).toNat : Int) :: byteCells (hexN u j) = byteCells (hexN u (j + 1))) := by
        show _ = byteCells (hexd (u / 16 ^ j % 16) :: hexN u j)
        rw [HV.out]
        rfl
      have HD2 : Hid (u / 16 ^ (j + 1) = v / 16) := by
        show _ = _
        rw [Nat.pow_succ, ← Nat.div_div_eq_div_mul, HV.out]
      generalize (hexd (v % 16)).toNat = dv at *
      go_wp2_with fail
      refine ⟨⟨j + 1, y, _, by omega, ?_, ?_, rfl, hhp2 _, hsz2 _, ?_, hB2 _, .inr ?_⟩, ?_⟩
      · rcases Nat.lt_or_ge j 5 with h5 | h5
        · omega
        · have hj5 : j = 5 := by omega
          have h6 := HV.out
          rw [hj5] at h6
          have h7 : u / 16 ^ 5 ≤ 1114111 / 16 ^ 5 := Nat.div_le_div_right hu
          have h8 : 1114111 / 16 ^ 5 = 1 := by decide
          omega
      · rw [HD2.out]; rfl
      · show _ = _
        rw [HS.out, HE.out]
      · rw [Nat.add_sub_cancel, HV.out]; exact h16
      · simp [RowKit.intOf]; omega
    · have hx := hexTab v (by omega)
      have hn : Hid (hexL u = hexN u (j + 1)) := by
        show _ = _
        unfold hexL
        rw [ndig_of hu (by rw [HV.out]; omega) HL.out]
      have HE : Hid (Value.int .u8 ((hexd v).toNat : Int) :: byteCells (hexN u j) = byteCells (hexN u (j + 1))) := by
        show _ = byteCells (hexd (u / 16 ^ j % 16) :: hexN u j)
        rw [HV.out, Nat.mod_eq_of_lt (by omega)]
        rfl
      generalize (hexd v).toNat = dv at *
      have hcv : ∀ cap, (convert 50 9 (.slice (some ⟨w.heap.size, y, none⟩) (65 - y) cap)).run Tryz.prog (wr.setCell ⟨w.heap.size, y, none⟩ (.int .u8 (dv : Int))) = _ := fun cap => conv_arr (hhp2 _) ((HS.out _).trans HE.out) (by rw [hexN_length]; omega)
      have hy65 : ¬ (65 = y) := by omega
      have hyl2 : (y : Int) ≤ 65 := by omega
      go_wp2_with fail
      go_ret2
      rw [hn.out]
      exact ⟨rfl, hB2 _⟩
end Go.Proofs.YtfakfmmngflbfacGreatDoor

namespace Go.Proofs.YtfakfmmngflbfacGreatDoor
open Go.RowKit Go.Lib

theorem catL (a b : List UInt8) : (⟨a.toArray⟩ : ByteArray) ++ ⟨b.toArray⟩ = ⟨(a ++ b).toArray⟩ := by
  apply ByteArray.ext
  simp
theorem ndig_le (u : Nat) : ndig u ≤ 6 := by unfold ndig; (repeat' split) <;> omega
theorem hexL_len (u : Nat) : (hexL u).length ≤ 6 := by unfold hexL; rw [hexN_length]; exact ndig_le u
theorem sizeL (l : List UInt8) : (⟨l.toArray⟩ : ByteArray).size = l.length := by rw [size_data]

set_option maxHeartbeats 400000 in
theorem formatIn_16 (u : Nat) (hu : u ≤ 1114111) (w : World) (hd : Deb w) :
    Calls Tryz.prog 68 #[.int .i64 u, .int .i64 16] w fun e w' => e = .returned (.string ⟨(hexL u).toArray⟩) ∧ Below w.heap.size w w' := by
  have d1 : decide ((u : Int) < 0) = false := decide_eq_false (by omega)
  go_enter Tryz.func68, Tryz.ntmps68
  go_wp2_with fail
  refine (formatBits_16 u hu _ hd).mono ?_
  rintro e w1 ⟨rfl, hb1⟩
  go_wp2_with fail
  go_ret
  exact ⟨rfl, hb1⟩
set_option maxHeartbeats 400000 in
theorem format_16 (u : Nat) (hu : u ≤ 1114111) (w : World) (hd : Deb w) :
    Calls Tryz.prog 54 #[.int .i64 u, .int .i64 16] w fun e w' => e = .returned (.string ⟨(hexL u).toArray⟩) ∧ Below w.heap.size w w' := by
  go_enter Tryz.func54, Tryz.ntmps54
  go_wp2_with fail
  refine (formatIn_16 u hu _ hd).mono ?_
  rintro e w1 ⟨rfl, hb1⟩
  go_wp2_with fail
  go_ret
  exact ⟨rfl, hb1⟩
set_option maxHeartbeats 400000 in
theorem quotedByte_any (c : Nat) (hc : c ≤ 255) (w : World) (hd : Deb w) :
    Calls Tryz.prog 29 #[.int .u8 c] w fun e w' => e = .returned (.string ⟨(92 :: 120 :: hexL c).toArray⟩) ∧ Below w.heap.size w w' := by
  have hl := hexL_len c
  rw [← sizeL (hexL c)] at hl
  have hC := catL [92, 120] (hexL c)
  obtain ⟨tx, htx⟩ : ∃ tx, (⟨(hexL c).toArray⟩ : ByteArray) = tx := ⟨_, rfl⟩
  rw [htx] at hl hC
  have HT : Hid ((⟨(hexL c).toArray⟩ : ByteArray) = tx) := htx
  have HC : Hid ((⟨#[92, 120]⟩ : ByteArray) ++ tx = ⟨(92 :: 120 :: hexL c).toArray⟩) := hC
  clear htx hC
  go_enter Tryz.func29, Tryz.ntmps29
  go_wp2_with fail
  refine (format_16 c (by omega) _ hd).mono ?_
  rintro e w1 ⟨rfl, hb1⟩
  rw [HT.out]
  go_wp2_with fail
  go_ret
  rw [← HC.out]
  exact ⟨rfl, hb1⟩

/-- A rune in a quoted form. -/
def qR (r : Nat) : List UInt8 :=
  if r = 34 then [92, 34] else if r = 92 then [92, 92] else if r = 10 then [92, 110] else if r = 9 then [92, 116] else if 32 ≤ r ∧ r ≤ 126 then [UInt8.ofNat r]
  else [92, 117, 123] ++ hexL r ++ [125]
theorem qR_len (r : Nat) : 1 ≤ (qR r).length ∧ (qR r).length ≤ 10 := by
  have := hexL_len r
  unfold qR
  (repeat' split) <;> simp <;> omega

set_option maxHeartbeats 1000000 in
theorem quotedRune_any (r : Nat) (hr : r ≤ 1114111) (w : World) (hd : Deb w) :
    Calls Tryz.prog 30 #[.int .i32 r] w fun e w' => e = .returned (.string ⟨(qR r).toArray⟩) ∧ Below w.heap.size w w' := by
  by_cases h1 : r = 34
  · subst h1
    go_enter Tryz.func30, Tryz.ntmps30
    go_wp2_with fail
    go_ret
    exact ⟨rfl, Below.refl _ _⟩
  by_cases h2 : r = 92
  · subst h2
    go_enter Tryz.func30, Tryz.ntmps30
    go_wp2_with fail
    go_ret
    exact ⟨rfl, Below.refl _ _⟩
  by_cases h3 : r = 10
  · subst h3
    go_enter Tryz.func30, Tryz.ntmps30
    go_wp2_with fail
    go_ret
    exact ⟨rfl, Below.refl _ _⟩
  by_cases h4 : r = 9
  · subst h4
    go_enter Tryz.func30, Tryz.ntmps30
    go_wp2_with fail
    go_ret
    exact ⟨rfl, Below.refl _ _⟩
  by_cases h5 : 32 ≤ r ∧ r ≤ 126
  · refine (quotedRune_plain r ⟨by omega, by omega, by omega, by omega⟩ w).mono ?_
    rintro e w' ⟨rfl, rfl⟩
    refine ⟨?_, Below.refl _ _⟩
    rw [encode_list, encB_plain ⟨by omega, by omega, by omega, by omega⟩]
    unfold qR
    rw [if_neg h1, if_neg h2, if_neg h3, if_neg h4, if_pos h5]
    simp
  · have hq : qR r = [92, 117, 123] ++ hexL r ++ [125] := by
      unfold qR
      rw [if_neg h1, if_neg h2, if_neg h3, if_neg h4, if_neg h5]
    have hl := hexL_len r
    rw [← sizeL (hexL r)] at hl
    have hC : (⟨#[92, 117, 123]⟩ : ByteArray) ++ ⟨(hexL r).toArray⟩ ++ ⟨#[125]⟩ = ⟨(qR r).toArray⟩ := by
      rw [hq, ← catL, ← catL]
    obtain ⟨tx, htx⟩ : ∃ tx, (⟨(hexL r).toArray⟩ : ByteArray) = tx := ⟨_, rfl⟩
    rw [htx] at hl hC
    have HT : Hid ((⟨(hexL r).toArray⟩ : ByteArray) = tx) := htx
    have HC : Hid ((⟨#[92, 117, 123]⟩ : ByteArray) ++ tx ++ ⟨#[125]⟩ = ⟨(qR r).toArray⟩) := hC
    clear htx hC hq
    have t1 : ((r : Int) == 34) = false := beq_eq_false_iff_ne.2 (by omega)
    have t2 : ((r : Int) == 92) = false := beq_eq_false_iff_ne.2 (by omega)
    have t3 : ((r : Int) == 10) = false := beq_eq_false_iff_ne.2 (by omega)
    have t4 : ((r : Int) == 9) = false := beq_eq_false_iff_ne.2 (by omega)
    have h6 : r < 32 ∨ 126 < r := by omega
    rcases h6 with h6 | h6
    · go_enter Tryz.func30, Tryz.ntmps30
      go_wp2_with fail
      refine (format_16 r hr _ hd).mono ?_
      rintro e w1 ⟨rfl, hb1⟩
      rw [HT.out]
      go_wp2_with fail
      go_ret
      rw [← HC.out]
      exact ⟨rfl, hb1⟩
    · go_enter Tryz.func30, Tryz.ntmps30
      go_wp2_with fail
      refine (format_16 r hr _ hd).mono ?_
      rintro e w1 ⟨rfl, hb1⟩
      rw [HT.out]
      go_wp2_with fail
      go_ret
      rw [← HC.out]
      exact ⟨rfl, hb1⟩

theorem builder_keep {T e : TypeId} {B b : Nat} {bs : List Value} {w w' : World} (h : Lib.IsBuilderF T e B b bs w) (hb : Below w.heap.size w w') : Lib.IsBuilderF T e B b bs w' := by
  have key : ∀ p, Lib.BuilderAtF T e B b p bs w → Lib.BuilderAtF T e B b p bs w' := by
    rintro p ⟨hB, v, hbk, ⟨hl, hr⟩, hne⟩
    refine ⟨hB, v, (hb.block b (Array.getElem?_eq_some_iff.1 hbk).1).trans hbk, ⟨hl, ?_⟩, hne⟩
    rcases hr with h0 | ⟨g, cap, cur, fz, hv, hg, hh, rest⟩
    · exact .inl h0
    · exact .inr ⟨g, cap, cur, fz, hv, hg, (hb.block g (Array.getElem?_eq_some_iff.1 hh).1).trans hh, rest⟩
  rcases h with h | h
  · exact .inl (key _ h)
  · exact .inr (key _ h)

/-- The pieces of a quoted form. -/
def pieceL (l : List UInt8) : List UInt8 := if brkL l = true then [92, 120] ++ hexL (at0 l 0) else qR (dec l).1
def quoL : Nat → List UInt8 → List UInt8
  | 0, _ => []
  | f + 1, l => if l = [] then [] else pieceL l ++ quoL f (l.drop (dec l).2)
def quoted (s : ByteArray) : List UInt8 := [34] ++ quoL s.size s.data.toList ++ [34]
theorem pieceL_len (l : List UInt8) : 1 ≤ (pieceL l).length ∧ (pieceL l).length ≤ 10 := by
  unfold pieceL
  split
  · have := hexL_len (at0 l 0)
    simp
    omega
  · exact qR_len _
theorem quoL_end (f : Nat) : quoL f [] = [] := by
  cases f
  · rfl
  · rw [quoL, if_pos rfl]
theorem byteAt0 (s : ByteArray) (pos : Nat) (h : pos < s.size) : (s[pos]'h).toNat = at0 (s.data.toList.drop pos) 0 := by
  have h2 : pos < s.data.size := h
  have e : s[pos]'h = s.data[pos]'h2 := rfl
  rw [e]
  unfold at0
  rw [List.getD_eq_getElem?_getD, List.getElem?_drop, Nat.add_zero, Array.getElem?_toList, Array.getElem?_eq_getElem h2]
  rfl
theorem strL (l : List UInt8) : Lib.strCells (⟨l.toArray⟩ : ByteArray) = Lib.byteCells l := by
  simp [Lib.strCells, Lib.byteCells]
theorem quoL_step (f : Nat) (l : List UInt8) (h : l ≠ []) : quoL (f + 1) l = pieceL l ++ quoL f (l.drop (dec l).2) := by rw [quoL, if_neg h]

set_option maxHeartbeats 2000000 in
set_option maxRecDepth 100000 in
theorem quote_any (s : ByteArray) (hs : s.size ≤ 1099511627776) (w : World) (hd : Deb w) :
    Calls Tryz.prog 12 #[.string s] w fun e w' => e = .returned (.string ⟨(quoted s).toArray⟩) ∧ Below w.heap.size w w' := by
  go_enter Tryz.func12, Tryz.ntmps12
  go_wp2_with fail
  refine (writeByte_any w.heap.size w.heap.size [] 34 _ (Lib.IsBuilderF.of (Lib.fresh_isBuilder 52 5 w)) (by simp) (by simp)).mono ?_
  rintro e w1 ⟨rfl, h1, b1, k1⟩
  have hB1 : Below w.heap.size w w1 := ((Below.refl _ _).alloc (Nat.le_refl _) _).trans b1
  have hlt1 : w.heap.size < w1.heap.size := by have := b1.size; simp at this; omega
  clear b1 k1
  go_wp2_with fail
  go_loopw [] (fun wr => ∃ (pos f : Nat) (acc : List UInt8), Lib.IsBuilderF 52 5 w.heap.size w.heap.size (Lib.byteCells ([34] ++ acc)) wr ∧ wr.heap[w1.heap.size]? = some (.stringIter s pos) ∧ Below w.heap.size w wr ∧ pos ≤ s.size ∧ s.size ≤ pos + f ∧ acc.length ≤ 10 * pos ∧ Hid (acc ++ quoL f (s.data.toList.drop pos) = quoL s.size s.data.toList)) (fun wr => s.size - wr.iterPos w1.heap.size)
  case atStart =>
    have hI1 : Lib.IsBuilderF 52 5 w.heap.size w.heap.size (Lib.byteCells ([34] ++ [])) w1 := .inr h1
    exact ⟨0, s.size, [], hI1.alloc _, World.iter_heap _ _ _, hB1.alloc (by omega) _, by omega, by omega, by simp, rfl⟩
  case round =>
    obtain ⟨pos, f, acc, hI, hit, hbw, hps, hpf, hal, HA⟩ := hrel
    have hszr : w1.heap.size < wr.heap.size := (Array.getElem?_eq_some_iff.1 hit).1
    by_cases hp : pos < s.size
    · obtain ⟨f, rfl⟩ : ∃ f', f = f' + 1 := ⟨f - 1, by omega⟩
      have hnx : ∀ ty, (Instr.next (.pointer (some ⟨w1.heap.size, 0, none⟩)) true ty).run Tryz.prog wr = _ := fun ty => run_next_any_at wr w1.heap.size s pos ty hit hp
      have hr0 := decode_le' s pos
      have hw1 := width_pos s pos
      have hw2 := width_fits s pos hp
      have hbw2 := below_iterAt hbw (k := w1.heap.size) (by omega) s (pos + (Utf8.decode s pos).2)
      have hI2 := hI.iterAt hit (pos + (Utf8.decode s pos).2)
      have hit2 := iterAt_heap wr w1.heap.size s pos (pos + (Utf8.decode s pos).2) hit
      have hsz2 : w1.heap.size < (wr.iterAt w1.heap.size s (pos + (Utf8.decode s pos).2)).heap.size := by rw [iterAt_size]; omega
      have HP : Hid (wr.iterPos w1.heap.size = pos) := iterPos_of' hit
      have hne : s.data.toList.drop pos ≠ [] := by
        intro e
        have := congrArg List.length e
        rw [List.length_drop, ← size_data] at this
        simp at this
        omega
      have hA2 := HA.out
      rw [quoL_step f _ hne, ← List.append_assoc] at hA2
      have hpl := pieceL_len (s.data.toList.drop pos)
      have hdd : (dec (s.data.toList.drop pos)).2 = (Utf8.decode s pos).2 := by rw [decode_dec]
      rw [hdd, List.drop_drop] at hA2
      obtain ⟨pc, hpc⟩ : ∃ pc, pieceL (s.data.toList.drop pos) = pc := ⟨_, rfl⟩
      rw [hpc] at hA2 hpl
      have HPC : Hid (pieceL (s.data.toList.drop pos) = pc) := hpc
      have HBR : Hid (brk s pos ((Utf8.decode s pos).1 : Int) = brkL (s.data.toList.drop pos)) := brk_brkL s pos
      have HDR : Hid ((Utf8.decode s pos).1 = (dec (s.data.toList.drop pos)).1) := by show _ = _; rw [decode_dec]
      have HBY : Hid (∀ h, (s[pos]'h).toNat = at0 (s.data.toList.drop pos) 0) := byteAt0 s pos
      have hb0 : at0 (s.data.toList.drop pos) 0 < 256 := at0_lt _ _
      clear hpc hdd hne HA
      have HA3 : Hid (acc ++ pc ++ quoL f (List.drop (pos + (Utf8.decode s pos).2) s.data.toList) = quoL s.size s.data.toList) := hA2
      clear hA2
      generalize hW : wr.iterAt w1.heap.size s (pos + (Utf8.decode s pos).2) = W2 at *
      clear hW hI hit hbw
      generalize (Utf8.decode s pos).1 = r at *
      generalize (Utf8.decode s pos).2 = wd at *
      have hd2 : Deb W2 := hd.below hbw2
      go_wp2_with fail
      refine (broken_any s pos r _ (by omega)).mono ?_
      rintro e w' ⟨rfl, rfl⟩
      rw [HBR.out]
      cases hbk : brkL (s.data.toList.drop pos) with
      | true =>
        have HQ : Hid (pc = [92, 120] ++ hexL (at0 (s.data.toList.drop pos) 0)) := by
          show _ = _
          rw [← HPC.out, pieceL, if_pos hbk]
        clear hbk
        go_wp2_with fail
        rw [HBY.out]
        refine (quotedByte_any _ (by omega) _ hd2).mono ?_
        rintro e w3 ⟨rfl, hb3⟩
        rw [show (⟨(92 :: 120 :: hexL (at0 (s.data.toList.drop pos) 0)).toArray⟩ : ByteArray) = ⟨pc.toArray⟩ by rw [HQ.out]; rfl]
        have hI3 := builder_keep hI2 hb3
        have hit3 : w3.heap[w1.heap.size]? = some (.stringIter s (pos + wd)) := (hb3.block _ hsz2).trans hit2
        have hbw3 := hbw2.trans (hb3.mono hbw2.size)
        have hsz3 : w1.heap.size < w3.heap.size := by have := hb3.size; omega
        clear hI2 hit2 hbw2 hb3 hsz2
        have hcz : (Lib.byteCells ([34] ++ acc)).length ≤ 10 * pos + 1 := by rw [Lib.byteCells_length]; simp; omega
        go_wp2_with fail
        refine (writeString_any w.heap.size w.heap.size _ _ _ hI3 (by rw [sizeL]; omega) (by omega)).mono ?_
        rintro e w4 ⟨rfl, h4, b4, k4⟩
        have hit4 := k4.iter hit3 (by omega)
        rw [strL, ← Lib.byteCells_append, List.append_assoc] at h4
        have hb4 := hbw3.trans b4
        clear hI3 hit3 hbw3 b4 k4
        go_wp2_with fail
        refine ⟨⟨pos + wd, f, acc ++ pc, .inr h4, hit4, hb4, by omega, by omega, by rw [List.length_append]; omega, HA3⟩, ?_⟩
        rw [HP.out, iterPos_of' hit4]
        omega
      | false =>
        have HQ : Hid (pc = qR r) := by
          show _ = _
          rw [← HPC.out, pieceL, if_neg (by rw [hbk]; decide), HDR.out]
        clear hbk
        go_wp2_with fail
        refine (quotedRune_any r hr0 _ hd2).mono ?_
        rintro e w3 ⟨rfl, hb3⟩
        rw [← HQ.out]
        have hI3 := builder_keep hI2 hb3
        have hit3 : w3.heap[w1.heap.size]? = some (.stringIter s (pos + wd)) := (hb3.block _ hsz2).trans hit2
        have hbw3 := hbw2.trans (hb3.mono hbw2.size)
        have hsz3 : w1.heap.size < w3.heap.size := by have := hb3.size; omega
        clear hI2 hit2 hbw2 hb3 hsz2
        have hcz : (Lib.byteCells ([34] ++ acc)).length ≤ 10 * pos + 1 := by rw [Lib.byteCells_length]; simp; omega
        go_wp2_with fail
        refine (writeString_any w.heap.size w.heap.size _ _ _ hI3 (by rw [sizeL]; omega) (by omega)).mono ?_
        rintro e w4 ⟨rfl, h4, b4, k4⟩
        have hit4 := k4.iter hit3 (by omega)
        rw [strL, ← Lib.byteCells_append, List.append_assoc] at h4
        have hb4 := hbw3.trans b4
        clear hI3 hit3 hbw3 b4 k4
        go_wp2_with fail
        refine ⟨⟨pos + wd, f, acc ++ pc, .inr h4, hit4, hb4, by omega, by omega, by rw [List.length_append]; omega, HA3⟩, ?_⟩
        rw [HP.out, iterPos_of' hit4]
        omega
    · have hps2 : pos = s.size := by omega
      subst hps2
      have hA2 := HA.out
      rw [List.drop_eq_nil_of_le (by rw [← size_data]; omega), quoL_end, List.append_nil] at hA2
      have HA2 : Hid (acc = quoL s.size s.data.toList) := hA2
      clear hA2 HA
      have hnx : ∀ ty, (Instr.next (.pointer (some ⟨w1.heap.size, 0, none⟩)) true ty).run Tryz.prog wr = _ := fun ty => run_next_end_at wr w1.heap.size s s.size ty hit hp
      go_wp2_with fail
      refine (writeByte_any w.heap.size w.heap.size _ 34 _ hI (by rw [Lib.byteCells_length]; simp; omega) (by omega)).mono ?_
      rintro e w2 ⟨rfl, h2, b2, _⟩
      have hb2 := hbw.trans b2
      have h2' : Lib.IsBuilderF 52 5 w.heap.size w.heap.size (Lib.byteCells (quoted s)) w2 := .inr (by
        have e : Lib.byteCells (quoted s) = Lib.byteCells ([34] ++ acc) ++ [.int .u8 34] := by
          unfold quoted; rw [Lib.byteCells_append, ← HA2.out]; rfl
        rw [e]; exact h2)
      have hsz2 := hb2.size
      clear h2 b2 hI hit hbw hnx
      go_wp2_with fail
      refine (Tryz.Builder_String_any_k w.heap.size w.heap.size (quoted s) _ h2' (by omega)).mono ?_
      rintro e w3 ⟨rfl, _, b3, _⟩
      have hb3 := hb2.trans b3
      clear b3 h2' hb2
      go_wp2_with fail
      go_ret
      exact ⟨rfl, hb3⟩
end Go.Proofs.YtfakfmmngflbfacGreatDoor
