import Derived.Test.YtnbedohlgghhdaaDoorPosT
import Derived.Laws.BytesArg
namespace Go.Proofs.YtnbedohlgghhdaaDoor
open Go.RowKit Go.Lib

/-- The one cell of the table of bits that a number to the base 16 reads. -/
structure Deb (w : World) : Prop where
  cell : w.cell? ⟨6, 15, none⟩ = some (.int .u8 4)
theorem Deb.below {w w' : World} (h : Deb w) (hb : Below w.heap.size w w') : Deb w' := by
  refine ⟨(hb.cell (p := ⟨6, 15, none⟩) ?_).trans h.cell⟩
  rcases Nat.lt_or_ge 6 w.heap.size with h2 | h2
  · exact h2
  · have := h.cell
    simp [World.cell?, Array.getElem?_eq_none h2] at this

set_option maxHeartbeats 400000 in
theorem trailing64_16 (w : World) (hd : Deb w) : Calls Tryd.prog 92 #[.int .u64 16] w fun e w' => e = .returned (.int .i64 4) ∧ w' = w := by
  have hc := hd.cell
  have h1 : IntKind.u64.wrap (-16) = 18446744073709551600 := by decide
  have hb : bits .and .u64 16 18446744073709551600 = 16 := by decide
  have h2 : IntKind.u64.wrap 4573923408821661840 = 4573923408821661840 := by decide
  go_enter Tryd.func92, Tryd.ntmps92
  go_wp2_with fail
  go_ret
  exact ⟨rfl, rfl⟩
set_option maxHeartbeats 400000 in
theorem trailing_16 (w : World) (hd : Deb w) : Calls Tryd.prog 83 #[.int .u64 16] w fun e w' => e = .returned (.int .i64 4) ∧ w' = w := by
  go_enter Tryd.func83, Tryd.ntmps83
  go_wp2_with fail
  refine (trailing64_16 _ hd).mono ?_
  rintro e w1 ⟨rfl, rfl⟩
  go_wp2_with fail
  go_ret
  exact ⟨rfl, rfl⟩
set_option maxHeartbeats 400000 in
theorem power_16 (w : World) : Calls Tryd.prog 82 #[.int .i64 16] w fun e w' => e = .returned (.bool true) ∧ w' = w := by
  have hb : bits .and .i64 16 15 = 0 := by decide
  go_enter Tryd.func82, Tryd.ntmps82
  go_wp2_with fail
  go_ret
  exact ⟨rfl, rfl⟩

/-- A digit; the last n digits of a number; how many it has (of those that a rune may have). -/
def hexd (d : Nat) : UInt8 := if d < 10 then UInt8.ofNat (48 + d) else UInt8.ofNat (87 + d)
def hexN (u : Nat) : Nat → List UInt8
  | 0 => []
  | n + 1 => hexd (u / 16 ^ n % 16) :: hexN u n
def ndig (u : Nat) : Nat := if u < 16 then 1 else if u < 256 then 2 else if u < 4096 then 3 else if u < 65536 then 4 else if u < 1048576 then 5 else 6
def hexL (u : Nat) : List UInt8 := hexN u (ndig u)
theorem ndig_of {u j : Nat} (hu : u ≤ 1114111) (h1 : u / 16 ^ j < 16) (h2 : j = 0 ∨ 16 ≤ u / 16 ^ (j - 1)) : ndig u = j + 1 := by
  have hj : j ≤ 5 := by
    rcases h2 with h2 | h2
    · omega
    · rcases Nat.lt_or_ge 5 j with h3 | h3
      · have h4 : 16 ^ 5 ≤ 16 ^ (j - 1) := Nat.pow_le_pow_right (by decide) (by omega)
        have h5 : u / 16 ^ (j - 1) ≤ u / 16 ^ 5 := Nat.div_le_div_left h4 (by decide)
        have h6 : u / 16 ^ 5 ≤ 1114111 / 16 ^ 5 := Nat.div_le_div_right hu
        omega
      · exact h3
  unfold ndig
  have : j = 0 ∨ j = 1 ∨ j = 2 ∨ j = 3 ∨ j = 4 ∨ j = 5 := by omega
  rcases this with rfl | rfl | rfl | rfl | rfl | rfl <;> simp at h1 h2 <;> (repeat' split) <;> omega

theorem alloc_new (w : World) (o : Obj) : (w.alloc o).heap[w.heap.size]? = some o := by
  show (w.heap.push o)[w.heap.size]? = some o
  exact Array.getElem?_push_size
/-- The zero of [65]uint8, its cells behind a name (a seat that is loaded in one piece has none). -/
def zc65 : Array Value := Array.replicate 65 (.int .u8 0)
theorem zero65 : zc65.size = 65 := by kernel_rfl
theorem zc65_ne : ¬ zc65 = #[] := fun h => by have := congrArg Array.size h; rw [zero65] at this; cases this
theorem run_zc65 (w : World) : (zeroValue 129).run Tryd.prog w = .ok (.agg zc65) w := by
  have h : (Tryd.prog.info? 129).map (fun i => i.zero) = some (some (.agg zc65)) := by kernel_rfl
  cases hi : Tryd.prog.info? 129 with
  | none => rw [hi] at h; cases h
  | some i =>
    rw [hi] at h
    simp only [Option.map_some, Option.some.injEq] at h
    simp [zeroValue, typeInfo, hi, h]
theorem mask15 (v : Nat) (h : v ≤ 1114111) : bits .and .u64 (v : Int) 15 = ((v % 16 : Nat) : Int) :=
  (bits_mask .u64 63 (by decide) (fun n h0 h1 => by rw [IntKind.wrap_u64]; omega) 4 (by decide) (v : Int) (by omega) (by omega)).trans (by omega)

theorem hexTab (d : Nat) (h : d < 16) : ∀ h' : d < (⟨#[48, 49, 50, 51, 52, 53, 54, 55, 56, 57, 97, 98, 99, 100, 101, 102, 103, 104, 105, 106, 107, 108, 109, 110, 111, 112, 113, 114, 115, 116, 117, 118, 119, 120, 121, 122]⟩ : ByteArray).size, ((⟨#[48, 49, 50, 51, 52, 53, 54, 55, 56, 57, 97, 98, 99, 100, 101, 102, 103, 104, 105, 106, 107, 108, 109, 110, 111, 112, 113, 114, 115, 116, 117, 118, 119, 120, 121, 122]⟩ : ByteArray)[d]'h').toNat = (hexd d).toNat := by
  have : d = 0 ∨ d = 1 ∨ d = 2 ∨ d = 3 ∨ d = 4 ∨ d = 5 ∨ d = 6 ∨ d = 7 ∨ d = 8 ∨ d = 9 ∨ d = 10 ∨ d = 11 ∨ d = 12 ∨ d = 13 ∨ d = 14 ∨ d = 15 := by omega
  rcases this with rfl | rfl | rfl | rfl | rfl | rfl | rfl | rfl | rfl | rfl | rfl | rfl | rfl | rfl | rfl | rfl <;> intro _ <;> rfl
theorem conv_arr {W : World} {g y n cap : Nat} {cur : Array Value} {T : TypeId} {l : List UInt8} (hh : W.heap[g]? = some (.cells cur T (0, 0))) (hd : cur.toList.drop y = Lib.byteCells l) (hl : l.length = n) :
    (convert 77 9 (.slice (some ⟨g, y, none⟩) n cap)).run Tryd.prog W = .ok (.string ⟨l.toArray⟩) W := by
  have := run_convert_bytes_arg (P := Tryd.prog) W 77 5 Tryd.underlying77 Tryd.underlying5 g y n cap (l.map fun b => (b.toNat : Int)) (by simpa using hl) (fun j hj => by
    have e1 : (cur.toList.drop y)[j]? = (Lib.byteCells l)[j]? := by rw [hd]
    rw [List.getElem?_drop, Array.getElem?_toList] at e1
    simp only [World.cell?, hh]
    rw [e1]
    simp [Lib.byteCells, List.getElem?_eq_getElem (show j < l.length by omega), List.getD_eq_getElem?_getD]) 9 Tryd.underlying9
  rw [this]
  have e : strOfNums (l.map fun b => (b.toNat : Int)) = ⟨l.toArray⟩ := by
    unfold strOfNums
    simp [Function.comp_def]
  rw [e]
theorem set_drop (cur : Array Value) (y : Nat) (v : Value) (l : List Value) (hy : y < cur.size) (h : cur.toList.drop (y + 1) = l) : (cur.setIfInBounds y v).toList.drop y = v :: l := by
  subst h
  rw [Array.toList_setIfInBounds, List.drop_set, if_neg (by omega), Nat.sub_self, List.drop_eq_getElem_cons (by simpa using hy)]
  rfl
theorem hexN_length (u : Nat) : ∀ n, (hexN u n).length = n
  | 0 => rfl
  | n + 1 => by rw [hexN, List.length_cons, hexN_length u n]

set_option maxHeartbeats 2000000 in
set_option maxRecDepth 100000 in
theorem formatBits_16 (u : Nat) (hu : u ≤ 1114111) (w : World) (hd : Deb w) :
    Calls Tryd.prog 65 #[.slice none 0 0, .int .u64 u, .int .i64 16, .bool false, .bool false] w fun e w' => e = .returned (.tuple #[.slice none 0 0, .string ⟨(hexL u).toArray⟩]) ∧ Below w.heap.size w w' := by
  have HZ0 := run_zc65
  have HZ1 := zc65_ne
  go_enter Tryd.func65, Tryd.ntmps65
  go_wp2_with (go_at_call 82; refine (power_16 _).mono ?_; rintro e w1 ⟨rfl, rfl⟩)
  refine (trailing_16 _ (hd.below ((Below.refl _ _).alloc (Nat.le_refl _) _))).mono ?_
  rintro e w1 ⟨rfl, rfl⟩
  go_wp2_with fail
  go_loopw [1, 13] (fun a i wr => ∃ (j x : Nat) (cur : Array Value), x + j = 65 ∧ j ≤ 5 ∧ a = .int .u64 (u / 16 ^ j : Nat) ∧ i = .int .i64 x ∧ wr.heap[w.heap.size]? = some (.cells cur 129 (0, 0)) ∧ cur.size = 65 ∧ Hid (cur.toList.drop x = byteCells (hexN u j)) ∧ Below w.heap.size w wr ∧ Hid (j = 0 ∨ 16 ≤ u / 16 ^ (j - 1))) (fun a _ _ => (RowKit.intOf a).toNat)
  case atStart =>
    refine ⟨0, 65, _, rfl, by decide, by simp, rfl, ?_, zero65, ?_, (Below.refl _ _).alloc (Nat.le_refl _) _, .inl rfl⟩
    · exact alloc_new _ _
    · show _ = _
      rw [List.drop_eq_nil_of_le (by rw [Array.length_toList, zero65]; decide)]
      rfl
  case round =>
    obtain ⟨j, x, cur, hxj, hj, rfl, rfl, hhp, hsz, HD, hb, HL⟩ := hrel
    have hv : u / 16 ^ j ≤ 1114111 := Nat.le_trans (Nat.div_le_self _ _) hu
    obtain ⟨v, hv0⟩ : ∃ v, u / 16 ^ j = v := ⟨_, rfl⟩
    rw [hv0] at hv
    have HV : Hid (u / 16 ^ j = v) := hv0
    rw [hv0]
    clear hv0
    have hm := mask15 v hv
    obtain ⟨y, rfl⟩ : ∃ y, x = y + 1 := ⟨x - 1, by omega⟩
    have hfr : wr.frozen? ⟨w.heap.size, y, none⟩ = false := by simp [World.frozen?, hhp]
    obtain ⟨v0, hcl⟩ : ∃ v0, wr.cell? ⟨w.heap.size, y, none⟩ = some v0 := ⟨cur[y]'(by omega), by simp [World.cell?, hhp]⟩
    have hal : Tryd.prog.arrayLen 129 = 65 := by kernel_rfl
    have hhp2 : ∀ V, (wr.setCell ⟨w.heap.size, y, none⟩ V).heap[w.heap.size]? = some (.cells (cur.setIfInBounds y V) 129 (0, 0)) := fun V => by simp [World.setCell, Array.getElem?_modify, hhp]
    have hsz2 : ∀ V, (cur.setIfInBounds y V).size = 65 := fun V => by simp [hsz]
    have hyl : y < cur.size := by omega
    have HS : Hid (∀ V, (cur.setIfInBounds y V).toList.drop y = V :: byteCells (hexN u j)) := fun V => set_drop cur y V _ hyl HD.out
    have hB2 : ∀ V, Below w.heap.size w (wr.setCell ⟨w.heap.size, y, none⟩ V) := fun V => hb.setCell (p := ⟨w.heap.size, y, none⟩) (Nat.le_refl _) V
    clear hyl hsz HD hb
    by_cases h16 : 16 ≤ v
    · have hx := hexTab (v % 16) (Nat.mod_lt _ (by decide))
      have HE : Hid (Value.int .u8 ((hexd (v % 16)).toNat : Int) :: byteCells (hexN u j) = byteCells (hexN u (j + 1))) := by
        show _ = byteCells (hexd (u / 16 ^ j % 16) :: hexN u j)
        rw [HV.out]
        rfl
      have HD2 : Hid (u / 16 ^ (j + 1) = v / 16) := by
        show _ = _
        rw [Nat.pow_succ, ← Nat.div_div_eq_div_mul, HV.out]
      generalize (hexd (v % 16)).toNat = dv at *
      go_wp2_with fail
      refine ⟨⟨j + 1, y, _, by omega, ?_, ?_, rfl, hhp2 _, hsz2 _, ?_, hB2 _, .inr ?_⟩, ?_⟩
      · rcases Nat.lt_or_ge j 5 with h5 | h5
        · omega
        · have hj5 : j = 5 := by omega
          have h6 := HV.out
          rw [hj5] at h6
          have h7 : u / 16 ^ 5 ≤ 1114111 / 16 ^ 5 := Nat.div_le_div_right hu
          have h8 : 1114111 / 16 ^ 5 = 1 := by decide
          omega
      · rw [HD2.out]; rfl
      · show _ = _
        rw [HS.out, HE.out]
      · rw [Nat.add_sub_cancel, HV.out]; exact h16
      · simp [RowKit.intOf]; omega
    · have hx := hexTab v (by omega)
      have hn : Hid (hexL u = hexN u (j + 1)) := by
        show _ = _
        unfold hexL
        rw [ndig_of hu (by rw [HV.out]; omega) HL.out]
      have HE : Hid (Value.int .u8 ((hexd v).toNat : Int) :: byteCells (hexN u j) = byteCells (hexN u (j + 1))) := by
        show _ = byteCells (hexd (u / 16 ^ j % 16) :: hexN u j)
        rw [HV.out, Nat.mod_eq_of_lt (by omega)]
        rfl
      generalize (hexd v).toNat = dv at *
      have hcv : ∀ cap, (convert 77 9 (.slice (some ⟨w.heap.size, y, none⟩) (65 - y) cap)).run Tryd.prog (wr.setCell ⟨w.heap.size, y, none⟩ (.int .u8 (dv : Int))) = _ := fun cap => conv_arr (hhp2 _) ((HS.out _).trans HE.out) (by rw [hexN_length]; omega)
      have hy65 : ¬ (65 = y) := by omega
      have hyl2 : (y : Int) ≤ 65 := by omega
      go_wp2_with fail
      go_ret2
      rw [hn.out]
      exact ⟨rfl, hB2 _⟩
end Go.Proofs.YtnbedohlgghhdaaDoor
