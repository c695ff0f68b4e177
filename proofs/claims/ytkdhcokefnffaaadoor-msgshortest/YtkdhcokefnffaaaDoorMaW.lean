import Derived.Test.YtkdhcokefnffaaaDoorMaV
import Derived.Test.YtkdhcokefnffaaaDoorMaT
/-! MsgShortest. -/
namespace Go.Proofs.YtkdhcokefnffaaaDoor
open Go.RowKit Go.Lib Sp
set_option maxRecDepth 100000

section
variable {S T : TypeId} {k by_ : Nat}
theorem cut_high (hK : Kind Tryd.prog S T k by_) (he : Tryd.prog.elem S = T) (W : World) (a : Option Addr) (n cap m : Nat) (hm : m ≤ cap) : (Instr.slice S (.slice a n cap) none (some (.int .i64 (m : Int))) none).run Tryd.prog W = .ok (.slice a m cap) W := by
  obtain ⟨i, z, hi, hz, hsz, hby, _⟩ := hK.info
  have := run_slice_h (P := Tryd.prog) W S a n cap (by rw [he]; exact hK.under) .i64 (m : Int) (by omega) (by omega)
  rw [this, he]
  simp [sizeOf, typeInfo, hi, hsz, sliced, Addr.add]
theorem cut_low (hK : Kind Tryd.prog S T k by_) (he : Tryd.prog.elem S = T) (W : World) (g off n cap m : Nat) (hm : m ≤ n) (hc : m < cap) : (Instr.slice S (.slice (some ⟨g, off, none⟩) n cap) (some (.int .i64 (m : Int))) none none).run Tryd.prog W = .ok (.slice (some ⟨g, off + m * k, none⟩) (n - m) (cap - m)) W := by
  obtain ⟨i, z, hi, hz, hsz, hby, _⟩ := hK.info
  have := run_slice_l (P := Tryd.prog) W S (some ⟨g, off, none⟩) n cap (by rw [he]; exact hK.under) .i64 (m : Int) (by omega) (by omega)
  rw [this, he]
  simp [sizeOf, typeInfo, hi, hsz, sliced, addr_add']
  omega
end
/-- bytes that the cells hold, as a string -/
theorem conv_cells {W : World} {g off : Nat} (l : List Nat) (cap : Nat) (hc : ∀ (j x : Nat), l[j]? = some x → W.cell? ⟨g, off + j, none⟩ = some (.int .u8 x)) (hb : ∀ x ∈ l, x < 256) : (convert 39 9 (.slice (some ⟨g, off, none⟩) l.length cap)).run Tryd.prog W = .ok (.string (strB l)) W := by
  have := run_convert_bytes_back (P := Tryd.prog) W 39 9 5 ⟨g, off, none⟩ cap (l.map UInt8.ofNat) Tryd.underlying39 Tryd.underlying5 Tryd.underlying9 (fun j hj => by
    rw [List.length_map] at hj
    have hx : l[j]? = some l[j] := List.getElem?_eq_getElem hj
    have h1 := hc j _ hx
    have h2 := hb _ (List.getElem_mem hj)
    rw [addr_add', h1, List.getElem_map, UInt8.toNat_ofNat']
    congr 2
    omega)
  rw [List.length_map] at this
  exact this
theorem Rw.byte {W : World} {g off n cap : Nat} {l : List Nat} (h : Rw byV 1 W (some ⟨g, off, none⟩) n cap l) (h0 : 0 < n) : ∀ (j x : Nat), l[j]? = some x → W.cell? ⟨g, off + j, none⟩ = some (.int .u8 x) := fun j x hj => by
  obtain ⟨g', off', e, _, hc⟩ := h.cells h0
  cases e
  have := hc j x hj 0 _ rfl
  simpa using this

set_option maxHeartbeats 8000000 in
theorem msgShortest_any {w : World} {ta pa : Option Addr} {tn tc pn pc : Nat} {zs ys : List Int} (ht : Rw rune1 1 w ta tn tc zs) (hp : Rw int1 1 w pa pn pc ys) (hpn : pn ≤ 9223372036854775807) (f0 f1 f2 f3 f4 f5 f6 f7 f8 f9 : Int) (on : Bool) :
    Calls Tryd.prog 4 #[.agg #[.int .i64 f0, .int .i64 f1, .int .i64 f2, .int .i64 f3, .int .i64 f4, .int .i64 f5, .int .i64 f6, .int .i64 f7, .slice ta tn tc, .slice pa pn pc, .bool on, .int .i64 f8, .int .u8 f9]] w fun e w' => e = .returned (.bool true) ∧ Below w.heap.size w w' := by
  have hbt := (Below.refl w.heap.size w).alloc (Nat.le_refl _) (.cells #[.int .i64 f0, .int .i64 f1, .int .i64 f2, .int .i64 f3, .int .i64 f4, .int .i64 f5, .int .i64 f6, .int .i64 f7, .slice ta tn tc, .slice pa pn pc, .bool on, .int .i64 f8, .int .u8 f9] 26)
  have HM := message_any (ht.below hbt) (hp.below hbt) hpn f0 f1 f2 f3 f4 f5 f6 f7 f8 f9 on
  clear ht hp hpn
  go_enter Tryd.func4, Tryd.ntmps4
  go_wp2_with fail
  refine HM.mono ?_
  rintro e w1 ⟨c, kk, rr, q, o, b, m, cp, rfl, hk1, hk2, hr1, hr2, hb1⟩
  obtain ⟨k, rfl⟩ : ∃ k : Nat, kk = k := ⟨kk.toNat, by omega⟩
  obtain ⟨r, rfl⟩ : ∃ r : Nat, rr = r := ⟨rr.toNat, by omega⟩
  have hbw : Below w.heap.size w w1 := hbt.trans (hb1.mono (by simp))
  have hk : 1 ≤ k ∧ k ≤ 8 := by omega
  have hr : r ≤ 8192 := by omega
  clear HM hbt hb1 hk1 hk2 hr1 hr2
  simp only [msgV, msgA]
  have HE := encode_ok (w1.alloc (.cells #[.int .i64 1, .int .i64 (k : Int), .int .i64 (r : Int), .int .i64 0, .int .i64 0, .int .i64 0, .int .i64 0, .int .i64 0, .string ⟨#[]⟩, .slice none 0 0, .int .i64 0, .int .i64 0, .bool false] 37)) k r hk hr
  have HB1 : Hid (Below w.heap.size w w1) := hbw
  clear hbw
  go_wp2_with fail
  refine HE.mono ?_
  rintro e w2 ⟨v1, rfl, ho, hb2⟩
  clear HE
  have hM2 : w2.heap[w1.heap.size]? = some (.cells #[.int .i64 1, .int .i64 (k : Int), .int .i64 (r : Int), .int .i64 0, .int .i64 0, .int .i64 0, .int .i64 0, .int .i64 0, .string ⟨#[]⟩, .slice none 0 0, .int .i64 0, .int .i64 0, .bool false] 37) := (hb2.block _ (by simp)).trans (heap_alloc_new _ _)
  have HB2 : Hid (Below w.heap.size w w2 ∧ w2.heap[w1.heap.size]? = some (.cells #[.int .i64 1, .int .i64 (k : Int), .int .i64 (r : Int), .int .i64 0, .int .i64 0, .int .i64 0, .int .i64 0, .int .i64 0, .string ⟨#[]⟩, .slice none 0 0, .int .i64 0, .int .i64 0, .bool false] 37)) := ⟨(HB1.out.alloc HB1.out.size _).trans (hb2.mono (by have := HB1.out.size; simp; omega)), hM2⟩
  obtain ⟨pre, x, hpre, hx, hp'⟩ := enc_last r hr
  have hl : encL [1, k, r] = 1 :: k :: (pre ++ [x]) := by
    have e1 : encP k = [k] := by unfold encP; rw [encF, if_pos (by omega)]
    have e0 : encP 1 = [1] := rfl
    simp [encL, hpre, e1, e0]
  have HW1 : Hid (w.heap.size ≤ w1.heap.size) := HB1.out.size
  clear hb2 hM2 HB1 hpre hr
  rcases hp' with rfl | ⟨y, hy1, hy2, rfl⟩
  · skip
    have hlL : encL [1, k, r] = [1, k, x] := hl
    rw [hlL] at ho
    obtain ⟨a, cap, hv⟩ := ho.shape
    have hv' : v1 = .slice a 3 cap := hv
    subst hv'
    clear hv
    have hb := ho.rw_ layB
    obtain ⟨g, off, rfl, hg, _⟩ := hb.cells (by omega)
    have hroom := hb.room
    simp only [maxLen] at hroom
    have C1 : ∀ W : World, (Instr.slice 39 (.slice (some ⟨g, off, none⟩) 3 cap) none (some (.int .i64 2)) none).run Tryd.prog W = .ok (.slice (some ⟨g, off, none⟩) 2 cap) W := fun W => cut_high kindB elemB W _ 3 cap 2 (by omega)
    have C2 : ∀ W : World, (Instr.slice 39 (.slice (some ⟨g, off, none⟩) 3 cap) (some (.int .i64 2)) none none).run Tryd.prog W = .ok (.slice (some ⟨g, off + 2, none⟩) 1 (cap - 2)) W := fun W => cut_low kindB elemB W g off 3 cap 2 (by omega) (by omega)
    have C3 : ∀ W : World, (Instr.slice 39 (.slice (some ⟨g, off, none⟩) 3 cap) none (some (.int .i64 1)) none).run Tryd.prog W = .ok (.slice (some ⟨g, off, none⟩) 1 cap) W := fun W => cut_high kindB elemB W _ 3 cap 1 (by omega)
    have C4 : ∀ W : World, (Instr.slice 39 (.slice (some ⟨g, off, none⟩) 3 cap) (some (.int .i64 1)) (some (.int .i64 2)) none).run Tryd.prog W = .ok (.slice (some ⟨g, off + 1, none⟩) 1 (cap - 1)) W := fun W => cut_both kindB elemB W g off 3 cap 1 2 (by omega) (by omega) (by omega)
    have HV1 : Hid (∀ W : World, (∀ q, W.cell? q = w2.cell? q) → (convert 39 9 (.slice (some ⟨g, off, none⟩) 2 cap)).run Tryd.prog W = .ok (.string (strB [1, k])) W) := fun W hW => conv_cells [1, k] cap (fun j z hj => (hW _).trans ((hb.take 2 (by omega)).byte (by omega) j z hj)) (by intro z hz; simp at hz; omega)
    have HV2 : Hid (∀ W : World, (∀ q, W.cell? q = w2.cell? q) → (convert 39 9 (.slice (some ⟨g, off + 2, none⟩) 1 (cap - 2))).run Tryd.prog W = .ok (.string (strB [x])) W) := fun W hW => conv_cells [x] (cap - 2) (fun j z hj => (hW _).trans ((hb.drop 2 (by omega)).byte (by omega) j z hj)) (by intro z hz; simp at hz; omega)
    have HK : Hid (Rw byV 1 w2 (some ⟨g, off, none⟩) 3 cap [1, k, x] ∧ 3 ≤ cap ∧ g < w2.heap.size) := ⟨hb, by omega, hg⟩
    clear hb hroom hg ho hl hlL
    go_wp2_with fail
    refine wp_region_held_drew (S := (fun W => ∀ q : Addr, W.cell? q = w2.cell? q)) (by kernel_rfl) ?hS1 (fun hHeld => ?rest1)
    case hS1 => (intro q; rfl)
    refine takeD (i := 0) (d := some 47) (v := ?vT2) rfl rfl (by kernel_rfl) (by kernel_rfl) (by kernel_rfl) (fun _ _ _ h => h) (Or.inl ⟨by rfl, ?hyT2⟩) (by assumption) ?rstT2
    case hyT2 => (intro w hSw; (try dsimp only at hSw); go_simp; (try with_reducible rfl))
    try simp only [Act.put, List.setIfInBounds_toArray, List.set_cons_zero, List.set_cons_succ]
    refine takeD (i := 1) (d := some 48) (v := ?vT3) rfl rfl (by kernel_rfl) (by kernel_rfl) (by kernel_rfl) (fun _ _ _ h => h) (Or.inl ⟨by rfl, ?hyT3⟩) (by assumption) ?rstT3
    case hyT3 => (intro w hSw; (try dsimp only at hSw); go_simp; (try with_reducible rfl))
    try simp only [Act.put, List.setIfInBounds_toArray, List.set_cons_zero, List.set_cons_succ]
    refine takeD (i := 2) (d := some 49) (v := ?vT4) rfl rfl (by kernel_rfl) (by kernel_rfl) (by kernel_rfl) (fun _ _ _ h => h) (Or.inl ⟨by rfl, ?hyT4⟩) (by assumption) ?rstT4
    case hyT4 => (intro w hSw; have hcv := HV1.out w hSw; clear hSw; go_simp; (try with_reducible rfl))
    try simp only [Act.put, List.setIfInBounds_toArray, List.set_cons_zero, List.set_cons_succ]
    refine takeD (i := 3) (d := some 50) (v := ?vT5) rfl rfl (by kernel_rfl) (by kernel_rfl) (by kernel_rfl) (fun _ _ _ h => h) (Or.inl ⟨by rfl, ?hyT5⟩) (by assumption) ?rstT5
    case hyT5 => (intro w hSw; (try dsimp only at hSw); go_simp; (try with_reducible rfl))
    try simp only [Act.put, List.setIfInBounds_toArray, List.set_cons_zero, List.set_cons_succ]
    refine takeD (i := 4) (d := some 51) (v := ?vT6) rfl rfl (by kernel_rfl) (by kernel_rfl) (by kernel_rfl) (fun _ _ _ h => h) (Or.inl ⟨by rfl, ?hyT6⟩) (by assumption) ?rstT6
    case hyT6 => (intro w hSw; (try dsimp only at hSw); go_simp; (try with_reducible rfl))
    try simp only [Act.put, List.setIfInBounds_toArray, List.set_cons_zero, List.set_cons_succ]
    refine takeD (i := 5) (d := some 52) (v := ?vT7) rfl rfl (by kernel_rfl) (by kernel_rfl) (by kernel_rfl) (fun _ _ _ h => h) (Or.inl ⟨by rfl, ?hyT7⟩) (by assumption) ?rstT7
    case hyT7 => (intro w hSw; have hcv := HV2.out w hSw; clear hSw; go_simp; (try with_reducible rfl))
    try simp only [Act.put, List.setIfInBounds_toArray, List.set_cons_zero, List.set_cons_succ]
    refine takeD (i := 6) (d := some 6) (v := ?vT8) rfl rfl (by kernel_rfl) (by kernel_rfl) (by kernel_rfl) (fun _ _ _ h => h) (Or.inl ⟨by rfl, ?hyT8⟩) (by assumption) ?rstT8
    case hyT8 => (intro w hSw; (try dsimp only at hSw); go_simp; (try with_reducible rfl))
    try simp only [Act.put, List.setIfInBounds_toArray, List.set_cons_zero, List.set_cons_succ]
    refine takeD (i := 7) (d := some 7) (v := ?vT9) rfl rfl (by kernel_rfl) (by kernel_rfl) (by kernel_rfl) (fun _ _ _ h => h) (Or.inl ⟨by rfl, ?hyT9⟩) (by assumption) ?rstT9
    case hyT9 => (intro w hSw; (try dsimp only at hSw); go_simp; (try with_reducible rfl))
    try simp only [Act.put, List.setIfInBounds_toArray, List.set_cons_zero, List.set_cons_succ]
    refine wpAnyH_done (by kernel_rfl) ?_ _
    clear hHeld HV1 HV2 C1 C2
    obtain ⟨cp3, w3, hr3, hR3, hb3, hs3⟩ := back_bytes w2.drew [x] (by intro z hz; simp at hz; omega) (by simp)
    have HG := grow_any hR3 x [] rfl hx (by simp)
    simp only [List.length_cons, List.length_nil, Nat.zero_add] at hr3 hR3 HG
    have hb23 : Below w2.heap.size w2 w3 := ((Below.refl _ _).drew).trans hb3
    clear hR3 hs3 hb3
    go_wp2_with fail
    refine HG.mono ?_
    rintro e w4 ⟨v4, rfl, ho4, hb4⟩
    clear HG hr3
    obtain ⟨a4, cap4, hv4⟩ := ho4.shape
    have hv4' : v4 = .slice a4 2 cap4 := hv4
    subst hv4'
    clear hv4
    have hcv4 := conv_bytes (ho4.rw_ layB) (by omega) (by intro z hz; simp at hz; omega)
    have hcat4 := strB_append [1, k] [128 + x, 0]
    obtain ⟨cp5, w5, hr5, hR5, hb5, hs5⟩ := back_bytes w4 [1, k, 128 + x, 0] (by intro z hz; simp at hz; omega) (by simp)
    have HD := decode_hello hR5 (fun g e => by cases e; exact hs5) (by intro z hz; simp at hz; omega) 1 (code_one _ _)
    rw [show [1, k, 128 + x, 0] = 1 :: k :: [128 + x, 0] from rfl, hello_rev _ k [128 + x, 0] hk 2 101 (rev_grown _ [] x hx (.inl rfl))] at HD
    simp only [List.length_cons, List.length_nil, Nat.zero_add, Nat.reduceAdd] at hr5 HD
    have hb25 : Below w2.heap.size w2 w5 := hb23.trans ((hb4.mono hb23.size).trans (hb5.mono (by have := hb23.size; have := hb4.size; omega)))
    clear hR5 hs5 ho4 hb4 hb5 hb23
    go_wp2_with fail
    refine HD.mono ?_
    rintro e w6 ⟨rfl, hb6⟩
    clear HD hr5 hcv4 hcat4
    unfold zeroV
    go_wp2_with fail
    obtain ⟨w7, ew7⟩ : ∃ W, w6.alloc (.cells #[.int .i64 0, .int .i64 0, .int .i64 0, .int .i64 0, .int .i64 0, .int .i64 0, .int .i64 0, .int .i64 0, .string ⟨#[]⟩, .slice none 0 0, .int .i64 0, .int .i64 0, .bool false] 37) = W := ⟨_, rfl⟩
    have hb27 : Below w2.heap.size w2 w7 := ew7 ▸ (hb25.trans (hb6.mono hb25.size)).alloc (by have := hb25.size; have := hb6.size; omega) _
    clear hb25 hb6
    obtain ⟨hb, hc3, hg⟩ := HK.out
    have hb7 := hb.below hb27
    have hg7 : g < w7.heap.size := by have := hb27.size; omega
    have HV3 : Hid (∀ W : World, (∀ q : Addr, q.block < w7.heap.size → W.cell? q = w7.cell? q) → (convert 39 9 (.slice (some ⟨g, off, none⟩) 1 cap)).run Tryd.prog W = .ok (.string (strB [1])) W) := fun W hW => conv_cells [1] cap (fun j z hj => (hW ⟨g, off + j, none⟩ hg7).trans ((hb7.take 1 (by omega)).byte (by omega) j z hj)) (by intro z hz; simp at hz; omega)
    have HGr : Hid (∀ W : World, Below w7.heap.size w7 W → Calls Tryd.prog 10 #[.slice (some ⟨g, off + 1, none⟩) 1 (cap - 1)] W fun e w' => ∃ v, e = .returned v ∧ OwnF byV 1 5 w' W.heap.size v [128 + k, 0] ∧ Below W.heap.size W w') := fun W hW => grow_any (((hb7.drop 1 (by omega)).take 1 (by omega)).below hW) k [] rfl (by omega) (by omega)
    have zs1 : (strB [1]).size = 1 := strB_size _
    have zs2 : (strB [128 + k, 0]).size = 2 := strB_size _
    have zs3 : (strB [1, 128 + k, 0]).size = 3 := strB_size _
    have zs4 : (strB [x]).size = 1 := strB_size _
    have hcatA := strB_append [1] [128 + k, 0]
    have hcatB := strB_append [1, 128 + k, 0] [x]
    have HK7 : Hid (Below w2.heap.size w2 w7) := hb27
    clear hb hc3 hg hb7 hg7 hb27
    rw [ew7]
    go_cut [12, 13] (fun v12 v13 W => v12 = .int .i64 1 ∧ v13 = .int .i64 101 ∧ Below w7.heap.size w7 W)
    case first =>
      clear ew7
      refine wp_region_held_drew (S := (fun W => ∀ q : Addr, q.block < w7.heap.size → W.cell? q = w7.cell? q)) (by kernel_rfl) ?hS10 (fun hHeld => ?rest10)
      case hS10 => (intro q hq; rfl)
      have hcur : Below w7.heap.size w7 w7.drew := (Below.refl _ _).drew
      refine takeD (i := 0) (d := some 66) (v := ?vT11) rfl rfl (by kernel_rfl) (by kernel_rfl) (by kernel_rfl) (fun _ _ _ h => h) (Or.inl ⟨by rfl, ?hyT11⟩) (by assumption) ?rstT11
      case hyT11 => (intro w hSw; (try dsimp only at hSw); go_simp; (try with_reducible rfl))
      try simp only [Act.put, List.setIfInBounds_toArray, List.set_cons_zero, List.set_cons_succ]
      refine takeD (i := 1) (d := some 67) (v := ?vT12) rfl rfl (by kernel_rfl) (by kernel_rfl) (by kernel_rfl) (fun _ _ _ h => h) (Or.inl ⟨by rfl, ?hyT12⟩) (by assumption) ?rstT12
      case hyT12 => (intro w hSw; (try dsimp only at hSw); go_simp; (try with_reducible rfl))
      try simp only [Act.put, List.setIfInBounds_toArray, List.set_cons_zero, List.set_cons_succ]
      refine takeD (i := 2) (d := some 68) (v := ?vT13) rfl rfl (by kernel_rfl) (by kernel_rfl) (by kernel_rfl) (fun _ _ _ h => h) (Or.inl ⟨by rfl, ?hyT13⟩) (by assumption) ?rstT13
      case hyT13 => (intro w hSw; have hcv := HV3.out w hSw; clear hSw; go_simp; (try with_reducible rfl))
      try simp only [Act.put, List.setIfInBounds_toArray, List.set_cons_zero, List.set_cons_succ]
      refine takeD (i := 3) (d := some 69) (v := ?vT14) rfl rfl (by kernel_rfl) (by kernel_rfl) (by kernel_rfl) (fun _ _ _ h => h) (Or.inl ⟨by rfl, ?hyT14⟩) (by assumption) ?rstT14
      case hyT14 => (intro w hSw; (try dsimp only at hSw); go_simp; (try with_reducible rfl))
      try simp only [Act.put, List.setIfInBounds_toArray, List.set_cons_zero, List.set_cons_succ]
      refine takeD (i := 4) (d := some 70) (v := ?vT15) rfl rfl (by kernel_rfl) (by kernel_rfl) (by kernel_rfl) (fun _ _ _ h => h) (Or.inl ⟨by rfl, ?hyT15⟩) (by assumption) ?rstT15
      case hyT15 => (intro w hSw; (try dsimp only at hSw); go_simp; (try with_reducible rfl))
      try simp only [Act.put, List.setIfInBounds_toArray, List.set_cons_zero, List.set_cons_succ]
      refine takeD (i := 8) (d := some 74) (v := ?vT16) rfl rfl (by kernel_rfl) (by kernel_rfl) (by kernel_rfl) (fun _ _ _ h => h) (Or.inl ⟨by rfl, ?hyT16⟩) (by assumption) ?rstT16
      case hyT16 => (intro w hSw; (try dsimp only at hSw); go_simp; (try with_reducible rfl))
      try simp only [Act.put, List.setIfInBounds_toArray, List.set_cons_zero, List.set_cons_succ]
      refine wpAnyH_ready (rs := [5, 16]) (by kernel_rfl) (by simp) (AllReadyH.cons rfl (fun K hK => ?bA17) (AllReadyH.cons rfl (fun K hK => ?bB17) AllReadyH.nil))
      case bA17 =>
        go_simp
        refine (HGr.out _ hcur).mono ?_
        rintro e2 wA ⟨vA, rfl, hoA, hbA⟩
        obtain ⟨aA, capA, hvA⟩ := hoA.shape
        have hvA' : vA = .slice aA 2 capA := hvA
        subst hvA'
        clear hvA
        have hcur2 : Below w7.heap.size w7 wA := hcur.trans (hbA.mono hcur.size)
        clear hcur
        have hcur := hcur2
        clear hcur2
        have hRA := hoA.rw_ layB
        clear hoA hbA
        clear hHeld
        refine hK.out _ _ ?hS18 (fun hHeld => ?rest18)
        case hS18 => (intro q hq; first | exact hcur.cell hq | exact hcur.drew.cell hq)
        clear hK K
        try simp only [Act.put, List.setIfInBounds_toArray, List.set_cons_zero, List.set_cons_succ]
        refine wpAnyH_ready (rs := [6, 16]) (by kernel_rfl) (by simp) (AllReadyH.cons rfl (fun K hK => ?bA25) (AllReadyH.cons rfl (fun K hK => ?bB25) AllReadyH.nil))
        case bA25 =>
          have hcvB := conv_bytes hRA (by omega) (by intro z hz; simp at hz; omega)
          go_simp
          clear hcvB
          clear hHeld
          refine hK.out _ _ ?hS26 (fun hHeld => ?rest26)
          case hS26 => (intro q hq; first | exact hcur.cell hq | exact hcur.drew.cell hq)
          clear hK K
          try simp only [Act.put, List.setIfInBounds_toArray, List.set_cons_zero, List.set_cons_succ]
          refine takeD (i := 7) (d := some 73) (v := ?vT27) rfl rfl (by kernel_rfl) (by kernel_rfl) (by kernel_rfl) (fun _ _ _ h => h) (Or.inl ⟨by rfl, ?hyT27⟩) (by assumption) ?rstT27
          case hyT27 => (intro w hSw; (try dsimp only at hSw); go_simp; (try with_reducible rfl))
          try simp only [Act.put, List.setIfInBounds_toArray, List.set_cons_zero, List.set_cons_succ]
          refine takeD (i := 9) (d := some 75) (v := ?vT28) rfl rfl (by kernel_rfl) (by kernel_rfl) (by kernel_rfl) (fun _ _ _ h => h) (Or.inl ⟨by rfl, ?hyT28⟩) (by assumption) ?rstT28
          case hyT28 => (intro w hSw; (try dsimp only at hSw); go_simp; (try with_reducible rfl))
          try simp only [Act.put, List.setIfInBounds_toArray, List.set_cons_zero, List.set_cons_succ]
          refine wpAnyH_ready (rs := [10, 16]) (by kernel_rfl) (by simp) (AllReadyH.cons rfl (fun K hK => ?bA33) (AllReadyH.cons rfl (fun K hK => ?bB33) AllReadyH.nil))
          case bA33 =>
            obtain ⟨cpC, wC, hrC, hRC, hbC, hsC⟩ := back_bytes wA [1, 128 + k, 0, x] (by intro z hz; simp at hz; omega) (by simp)
            simp only [List.length_cons, List.length_nil, Nat.zero_add, Nat.reduceAdd] at hrC
            go_simp
            clear hrC
            have hcur2 : Below w7.heap.size w7 wC := hcur.trans (hbC.mono hcur.size)
            clear hcur
            have hcur := hcur2
            clear hcur2
            clear hbC
            clear hHeld
            refine hK.out _ _ ?hS34 (fun hHeld => ?rest34)
            case hS34 => (intro q hq; first | exact hcur.cell hq | exact hcur.drew.cell hq)
            clear hK K
            try simp only [Act.put, List.setIfInBounds_toArray, List.set_cons_zero, List.set_cons_succ]
            refine wpAnyH_ready (rs := [11, 16]) (by kernel_rfl) (by simp) (AllReadyH.cons rfl (fun K hK => ?bA41) (AllReadyH.cons rfl (fun K hK => ?bB41) AllReadyH.nil))
            case bA41 =>
              have HD2 := decode_hello hRC (fun g e => by cases e; exact hsC) (by intro z hz; simp at hz; omega) 1 (code_one _ _)
              rw [show [1, 128 + k, 0, x] = 1 :: (128 + k) :: 0 :: [x] from rfl, hello_client _ _ (numP_grown1 k _ (by omega))] at HD2
              simp only [List.length_cons, List.length_nil, Nat.zero_add, Nat.reduceAdd] at HD2
              go_simp
              refine HD2.mono ?_
              rintro e2 wD ⟨rfl, hbD⟩
              clear HD2
              unfold zeroV
              have hcur2 : Below w7.heap.size w7 wD := hcur.trans (hbD.mono hcur.size)
              clear hcur
              have hcur := hcur2
              clear hcur2
              clear hbD
              clear hHeld
              refine hK.out _ _ ?hS42 (fun hHeld => ?rest42)
              case hS42 => (intro q hq; first | exact hcur.cell hq | exact hcur.drew.cell hq)
              clear hK K
              try simp only [Act.put, List.setIfInBounds_toArray, List.set_cons_zero, List.set_cons_succ]
              refine takeD (i := 12) (d := some 65) (v := ?vT45) rfl rfl (by kernel_rfl) (by kernel_rfl) (by kernel_rfl) (fun _ _ _ h => h) (Or.inl ⟨by rfl, ?hyT45⟩) (by assumption) ?rstT45
              case hyT45 => (intro w hSw; (try dsimp only at hSw); go_simp; (try with_reducible rfl))
              try simp only [Act.put, List.setIfInBounds_toArray, List.set_cons_zero, List.set_cons_succ]
              refine takeD (i := 13) (d := some 78) (v := ?vT46) rfl rfl (by kernel_rfl) (by kernel_rfl) (by kernel_rfl) (fun _ _ _ h => h) (Or.inl ⟨by rfl, ?hyT46⟩) (by assumption) ?rstT46
              case hyT46 => (intro w hSw; (try dsimp only at hSw); go_simp; (try with_reducible rfl))
              try simp only [Act.put, List.setIfInBounds_toArray, List.set_cons_zero, List.set_cons_succ]
              refine takeD (i := 14) (d := some 79) (v := ?vT47) rfl rfl (by kernel_rfl) (by kernel_rfl) (by kernel_rfl) (fun _ _ _ h => h) (Or.inl ⟨by rfl, ?hyT47⟩) (by assumption) ?rstT47
              case hyT47 => (intro w hSw; (try dsimp only at hSw); go_simp; (try with_reducible rfl))
              try simp only [Act.put, List.setIfInBounds_toArray, List.set_cons_zero, List.set_cons_succ]
              refine takeD (i := 15) (d := some 80) (v := ?vT48) rfl rfl (by kernel_rfl) (by kernel_rfl) (by kernel_rfl) (fun _ _ _ h => h) (Or.inl ⟨by rfl, ?hyT48⟩) (by assumption) ?rstT48
              case hyT48 => (intro w hSw; (try dsimp only at hSw); go_simp; (try with_reducible rfl))
              try simp only [Act.put, List.setIfInBounds_toArray, List.set_cons_zero, List.set_cons_succ]
              refine wpAnyH_ready (rs := [16]) (by kernel_rfl) (by simp) ?_
              refine AllReadyH.cons rfl (fun K hK => ?_) AllReadyH.nil
              have hcu := hcur.size
              obtain ⟨wE, ewE⟩ : ∃ W, wD.alloc (.cells #[.int .i64 0, .int .i64 0, .int .i64 0, .int .i64 0, .int .i64 0, .int .i64 0, .int .i64 0, .int .i64 0, .string ⟨#[]⟩, .slice none 0 0, .int .i64 0, .int .i64 0, .bool false] 37) = W := ⟨_, rfl⟩
              have hbE : Below wD.heap.size wD wE := ewE ▸ (Below.refl _ _).alloc (Nat.le_refl _) _
              go_simp
              have hcur2 : Below w7.heap.size w7 wE := hcur.trans (hbE.mono hcur.size)
              clear hcur
              have hcur := hcur2
              clear hcur2
              have hE : wE.heap[wD.heap.size]? = some (.cells #[.int .i64 0, .int .i64 0, .int .i64 0, .int .i64 0, .int .i64 0, .int .i64 0, .int .i64 0, .int .i64 0, .string ⟨#[]⟩, .slice none 0 0, .int .i64 0, .int .i64 0, .bool false] 37) := ewE ▸ heap_alloc_new _ _
              have hEw : w7.heap.size ≤ wD.heap.size := hcu
              clear hbE ewE
              clear hHeld
              refine hK.out _ _ ?hS49 (fun hHeld => ?rest49)
              case hS49 => (intro q hq; first | exact hcur.cell hq | exact hcur.drew.cell hq)
              clear hK K
              try simp only [Act.put, List.setIfInBounds_toArray, List.set_cons_zero, List.set_cons_succ]
              obtain ⟨z0, z1, z2, z3, z4, z5, z6, z7, z8, z9, z10, z11, z12⟩ := box13 hE
              have FZ : ∀ i, wE.frozen? ⟨wD.heap.size, i, none⟩ = false := fun i => Lib.frozen_of_heap hE i
              have hst := set13 hE (.int .i64 0) (.int .i64 0) (.int .i64 0) (.int .i64 0) (.int .i64 0) (.int .i64 0) (.int .i64 0) (.int .i64 0) (.string ⟨#[]⟩) (.slice none 0 0) (.int .i64 0) (.int .i64 0) (.bool false)
              obtain ⟨wF, ewF⟩ : ∃ W, (((((((((((((wE.setCell ⟨wD.heap.size, 0, none⟩ (.int .i64 0)).setCell ⟨wD.heap.size, 1, none⟩ (.int .i64 0)).setCell ⟨wD.heap.size, 2, none⟩ (.int .i64 0)).setCell ⟨wD.heap.size, 3, none⟩ (.int .i64 0)).setCell ⟨wD.heap.size, 4, none⟩ (.int .i64 0)).setCell ⟨wD.heap.size, 5, none⟩ (.int .i64 0)).setCell ⟨wD.heap.size, 6, none⟩ (.int .i64 0)).setCell ⟨wD.heap.size, 7, none⟩ (.int .i64 0)).setCell ⟨wD.heap.size, 8, none⟩ (.string ⟨#[]⟩)).setCell ⟨wD.heap.size, 9, none⟩ (.slice none 0 0)).setCell ⟨wD.heap.size, 10, none⟩ (.int .i64 0)).setCell ⟨wD.heap.size, 11, none⟩ (.int .i64 0)).setCell ⟨wD.heap.size, 12, none⟩ (.bool false)) = W := ⟨_, rfl⟩
              rw [ewF] at hst
              have hcurF : Below w7.heap.size w7 wF := hcur.trans (hst.2.below (B := w7.heap.size) (fun g e => by omega) hcur.size)
              refine wpAnyH_ready (rs := [17]) (by kernel_rfl) (by simp) ?_
              refine AllReadyH.cons rfl (fun K hK => ?_) AllReadyH.nil
              go_simp
              clear hcur
              have hcur := hcurF
              clear hHeld
              refine hK.out _ _ ?hS50 (fun hHeld => ?rest50)
              case hS50 => (intro q hq; first | exact hcur.cell hq | exact hcur.drew.cell hq)
              clear hK K
              try simp only [Act.put, List.setIfInBounds_toArray, List.set_cons_zero, List.set_cons_succ]
              refine takeD (i := 18) (d := some 12) (v := ?vT51) rfl rfl (by kernel_rfl) (by kernel_rfl) (by kernel_rfl) (fun _ _ _ h => h) (Or.inl ⟨by rfl, ?hyT51⟩) (by assumption) ?rstT51
              case hyT51 => (intro w hSw; (try dsimp only at hSw); go_simp; (try with_reducible rfl))
              try simp only [Act.put, List.setIfInBounds_toArray, List.set_cons_zero, List.set_cons_succ]
              refine takeD (i := 19) (d := some 13) (v := ?vT52) rfl rfl (by kernel_rfl) (by kernel_rfl) (by kernel_rfl) (fun _ _ _ h => h) (Or.inl ⟨by rfl, ?hyT52⟩) (by assumption) ?rstT52
              case hyT52 => (intro w hSw; (try dsimp only at hSw); go_simp; (try with_reducible rfl))
              try simp only [Act.put, List.setIfInBounds_toArray, List.set_cons_zero, List.set_cons_succ]
              refine wpAnyH_done (by kernel_rfl) ?_ _
              clear hHeld
              go_wp2_with fail
              go_meet
              case rel => exact ⟨rfl, rfl, by first | exact hcurF | exact hcurF.drew⟩
            case bB41 =>
              have hcu := hcur.size
              obtain ⟨wE, ewE⟩ : ∃ W, wC.alloc (.cells #[.int .i64 0, .int .i64 0, .int .i64 0, .int .i64 0, .int .i64 0, .int .i64 0, .int .i64 0, .int .i64 0, .string ⟨#[]⟩, .slice none 0 0, .int .i64 0, .int .i64 0, .bool false] 37) = W := ⟨_, rfl⟩
              have hbE : Below wC.heap.size wC wE := ewE ▸ (Below.refl _ _).alloc (Nat.le_refl _) _
              go_simp
              have hRC2 := hRC.below hbE
              have hsC2 := Nat.lt_of_lt_of_le hsC hbE.size
              clear hRC hsC
              have hRC := hRC2
              have hsC := hsC2
              clear hRC2 hsC2
              have hcur2 : Below w7.heap.size w7 wE := hcur.trans (hbE.mono hcur.size)
              clear hcur
              have hcur := hcur2
              clear hcur2
              have hE : wE.heap[wC.heap.size]? = some (.cells #[.int .i64 0, .int .i64 0, .int .i64 0, .int .i64 0, .int .i64 0, .int .i64 0, .int .i64 0, .int .i64 0, .string ⟨#[]⟩, .slice none 0 0, .int .i64 0, .int .i64 0, .bool false] 37) := ewE ▸ heap_alloc_new _ _
              have hEw : w7.heap.size ≤ wC.heap.size := hcu
              clear hbE ewE
              clear hHeld
              refine hK.out _ _ ?hS53 (fun hHeld => ?rest53)
              case hS53 => (intro q hq; first | exact hcur.cell hq | exact hcur.drew.cell hq)
              clear hK K
              try simp only [Act.put, List.setIfInBounds_toArray, List.set_cons_zero, List.set_cons_succ]
              refine wpAnyH_ready (rs := [11]) (by kernel_rfl) (by simp) ?_
              refine AllReadyH.cons rfl (fun K hK => ?_) AllReadyH.nil
              have HD2 := decode_hello hRC (fun g e => by cases e; exact hsC) (by intro z hz; simp at hz; omega) 1 (code_one _ _)
              rw [show [1, 128 + k, 0, x] = 1 :: (128 + k) :: 0 :: [x] from rfl, hello_client _ _ (numP_grown1 k _ (by omega))] at HD2
              simp only [List.length_cons, List.length_nil, Nat.zero_add, Nat.reduceAdd] at HD2
              go_simp
              refine HD2.mono ?_
              rintro e2 wD ⟨rfl, hbD⟩
              clear HD2
              unfold zeroV
              have hE2 := (hbD.block _ (Array.getElem?_eq_some_iff.1 hE).1).trans hE
              clear hE
              have hE := hE2
              clear hE2
              have hcur2 : Below w7.heap.size w7 wD := hcur.trans (hbD.mono hcur.size)
              clear hcur
              have hcur := hcur2
              clear hcur2
              clear hbD
              clear hHeld
              refine hK.out _ _ ?hS54 (fun hHeld => ?rest54)
              case hS54 => (intro q hq; first | exact hcur.cell hq | exact hcur.drew.cell hq)
              clear hK K
              try simp only [Act.put, List.setIfInBounds_toArray, List.set_cons_zero, List.set_cons_succ]
              refine takeD (i := 12) (d := some 65) (v := ?vT57) rfl rfl (by kernel_rfl) (by kernel_rfl) (by kernel_rfl) (fun _ _ _ h => h) (Or.inl ⟨by rfl, ?hyT57⟩) (by assumption) ?rstT57
              case hyT57 => (intro w hSw; (try dsimp only at hSw); go_simp; (try with_reducible rfl))
              try simp only [Act.put, List.setIfInBounds_toArray, List.set_cons_zero, List.set_cons_succ]
              refine takeD (i := 13) (d := some 78) (v := ?vT58) rfl rfl (by kernel_rfl) (by kernel_rfl) (by kernel_rfl) (fun _ _ _ h => h) (Or.inl ⟨by rfl, ?hyT58⟩) (by assumption) ?rstT58
              case hyT58 => (intro w hSw; (try dsimp only at hSw); go_simp; (try with_reducible rfl))
              try simp only [Act.put, List.setIfInBounds_toArray, List.set_cons_zero, List.set_cons_succ]
              refine takeD (i := 14) (d := some 79) (v := ?vT59) rfl rfl (by kernel_rfl) (by kernel_rfl) (by kernel_rfl) (fun _ _ _ h => h) (Or.inl ⟨by rfl, ?hyT59⟩) (by assumption) ?rstT59
              case hyT59 => (intro w hSw; (try dsimp only at hSw); go_simp; (try with_reducible rfl))
              try simp only [Act.put, List.setIfInBounds_toArray, List.set_cons_zero, List.set_cons_succ]
              refine takeD (i := 15) (d := some 80) (v := ?vT60) rfl rfl (by kernel_rfl) (by kernel_rfl) (by kernel_rfl) (fun _ _ _ h => h) (Or.inl ⟨by rfl, ?hyT60⟩) (by assumption) ?rstT60
              case hyT60 => (intro w hSw; (try dsimp only at hSw); go_simp; (try with_reducible rfl))
              try simp only [Act.put, List.setIfInBounds_toArray, List.set_cons_zero, List.set_cons_succ]
              obtain ⟨z0, z1, z2, z3, z4, z5, z6, z7, z8, z9, z10, z11, z12⟩ := box13 hE
              have FZ : ∀ i, wD.frozen? ⟨wC.heap.size, i, none⟩ = false := fun i => Lib.frozen_of_heap hE i
              have hst := set13 hE (.int .i64 0) (.int .i64 0) (.int .i64 0) (.int .i64 0) (.int .i64 0) (.int .i64 0) (.int .i64 0) (.int .i64 0) (.string ⟨#[]⟩) (.slice none 0 0) (.int .i64 0) (.int .i64 0) (.bool false)
              obtain ⟨wF, ewF⟩ : ∃ W, (((((((((((((wD.setCell ⟨wC.heap.size, 0, none⟩ (.int .i64 0)).setCell ⟨wC.heap.size, 1, none⟩ (.int .i64 0)).setCell ⟨wC.heap.size, 2, none⟩ (.int .i64 0)).setCell ⟨wC.heap.size, 3, none⟩ (.int .i64 0)).setCell ⟨wC.heap.size, 4, none⟩ (.int .i64 0)).setCell ⟨wC.heap.size, 5, none⟩ (.int .i64 0)).setCell ⟨wC.heap.size, 6, none⟩ (.int .i64 0)).setCell ⟨wC.heap.size, 7, none⟩ (.int .i64 0)).setCell ⟨wC.heap.size, 8, none⟩ (.string ⟨#[]⟩)).setCell ⟨wC.heap.size, 9, none⟩ (.slice none 0 0)).setCell ⟨wC.heap.size, 10, none⟩ (.int .i64 0)).setCell ⟨wC.heap.size, 11, none⟩ (.int .i64 0)).setCell ⟨wC.heap.size, 12, none⟩ (.bool false)) = W := ⟨_, rfl⟩
              rw [ewF] at hst
              have hcurF : Below w7.heap.size w7 wF := hcur.trans (hst.2.below (B := w7.heap.size) (fun g e => by omega) hcur.size)
              refine wpAnyH_ready (rs := [17]) (by kernel_rfl) (by simp) ?_
              refine AllReadyH.cons rfl (fun K hK => ?_) AllReadyH.nil
              go_simp
              clear hcur
              have hcur := hcurF
              clear hHeld
              refine hK.out _ _ ?hS61 (fun hHeld => ?rest61)
              case hS61 => (intro q hq; first | exact hcur.cell hq | exact hcur.drew.cell hq)
              clear hK K
              try simp only [Act.put, List.setIfInBounds_toArray, List.set_cons_zero, List.set_cons_succ]
              refine takeD (i := 18) (d := some 12) (v := ?vT62) rfl rfl (by kernel_rfl) (by kernel_rfl) (by kernel_rfl) (fun _ _ _ h => h) (Or.inl ⟨by rfl, ?hyT62⟩) (by assumption) ?rstT62
              case hyT62 => (intro w hSw; (try dsimp only at hSw); go_simp; (try with_reducible rfl))
              try simp only [Act.put, List.setIfInBounds_toArray, List.set_cons_zero, List.set_cons_succ]
              refine takeD (i := 19) (d := some 13) (v := ?vT63) rfl rfl (by kernel_rfl) (by kernel_rfl) (by kernel_rfl) (fun _ _ _ h => h) (Or.inl ⟨by rfl, ?hyT63⟩) (by assumption) ?rstT63
              case hyT63 => (intro w hSw; (try dsimp only at hSw); go_simp; (try with_reducible rfl))
              try simp only [Act.put, List.setIfInBounds_toArray, List.set_cons_zero, List.set_cons_succ]
              refine wpAnyH_done (by kernel_rfl) ?_ _
              clear hHeld
              go_wp2_with fail
              go_meet
              case rel => exact ⟨rfl, rfl, by first | exact hcurF | exact hcurF.drew⟩
          case bB33 =>
            have hcu := hcur.size
            obtain ⟨wE, ewE⟩ : ∃ W, wA.alloc (.cells #[.int .i64 0, .int .i64 0, .int .i64 0, .int .i64 0, .int .i64 0, .int .i64 0, .int .i64 0, .int .i64 0, .string ⟨#[]⟩, .slice none 0 0, .int .i64 0, .int .i64 0, .bool false] 37) = W := ⟨_, rfl⟩
            have hbE : Below wA.heap.size wA wE := ewE ▸ (Below.refl _ _).alloc (Nat.le_refl _) _
            go_simp
            have hcur2 : Below w7.heap.size w7 wE := hcur.trans (hbE.mono hcur.size)
            clear hcur
            have hcur := hcur2
            clear hcur2
            have hE : wE.heap[wA.heap.size]? = some (.cells #[.int .i64 0, .int .i64 0, .int .i64 0, .int .i64 0, .int .i64 0, .int .i64 0, .int .i64 0, .int .i64 0, .string ⟨#[]⟩, .slice none 0 0, .int .i64 0, .int .i64 0, .bool false] 37) := ewE ▸ heap_alloc_new _ _
            have hEw : w7.heap.size ≤ wA.heap.size := hcu
            clear hbE ewE
            clear hHeld
            refine hK.out _ _ ?hS64 (fun hHeld => ?rest64)
            case hS64 => (intro q hq; first | exact hcur.cell hq | exact hcur.drew.cell hq)
            clear hK K
            try simp only [Act.put, List.setIfInBounds_toArray, List.set_cons_zero, List.set_cons_succ]
            refine wpAnyH_ready (rs := [10]) (by kernel_rfl) (by simp) ?_
            refine AllReadyH.cons rfl (fun K hK => ?_) AllReadyH.nil
            obtain ⟨cpC, wC, hrC, hRC, hbC, hsC⟩ := back_bytes wE [1, 128 + k, 0, x] (by intro z hz; simp at hz; omega) (by simp)
            simp only [List.length_cons, List.length_nil, Nat.zero_add, Nat.reduceAdd] at hrC
            go_simp
            clear hrC
            have hE2 := (hbC.block _ (Array.getElem?_eq_some_iff.1 hE).1).trans hE
            clear hE
            have hE := hE2
            clear hE2
            have hcur2 : Below w7.heap.size w7 wC := hcur.trans (hbC.mono hcur.size)
            clear hcur
            have hcur := hcur2
            clear hcur2
            clear hbC
            clear hHeld
            refine hK.out _ _ ?hS65 (fun hHeld => ?rest65)
            case hS65 => (intro q hq; first | exact hcur.cell hq | exact hcur.drew.cell hq)
            clear hK K
            try simp only [Act.put, List.setIfInBounds_toArray, List.set_cons_zero, List.set_cons_succ]
            refine wpAnyH_ready (rs := [11]) (by kernel_rfl) (by simp) ?_
            refine AllReadyH.cons rfl (fun K hK => ?_) AllReadyH.nil
            have HD2 := decode_hello hRC (fun g e => by cases e; exact hsC) (by intro z hz; simp at hz; omega) 1 (code_one _ _)
            rw [show [1, 128 + k, 0, x] = 1 :: (128 + k) :: 0 :: [x] from rfl, hello_client _ _ (numP_grown1 k _ (by omega))] at HD2
            simp only [List.length_cons, List.length_nil, Nat.zero_add, Nat.reduceAdd] at HD2
            go_simp
            refine HD2.mono ?_
            rintro e2 wD ⟨rfl, hbD⟩
            clear HD2
            unfold zeroV
            have hE2 := (hbD.block _ (Array.getElem?_eq_some_iff.1 hE).1).trans hE
            clear hE
            have hE := hE2
            clear hE2
            have hcur2 : Below w7.heap.size w7 wD := hcur.trans (hbD.mono hcur.size)
            clear hcur
            have hcur := hcur2
            clear hcur2
            clear hbD
            clear hHeld
            refine hK.out _ _ ?hS72 (fun hHeld => ?rest72)
            case hS72 => (intro q hq; first | exact hcur.cell hq | exact hcur.drew.cell hq)
            clear hK K
            try simp only [Act.put, List.setIfInBounds_toArray, List.set_cons_zero, List.set_cons_succ]
            refine takeD (i := 12) (d := some 65) (v := ?vT75) rfl rfl (by kernel_rfl) (by kernel_rfl) (by kernel_rfl) (fun _ _ _ h => h) (Or.inl ⟨by rfl, ?hyT75⟩) (by assumption) ?rstT75
            case hyT75 => (intro w hSw; (try dsimp only at hSw); go_simp; (try with_reducible rfl))
            try simp only [Act.put, List.setIfInBounds_toArray, List.set_cons_zero, List.set_cons_succ]
            refine takeD (i := 13) (d := some 78) (v := ?vT76) rfl rfl (by kernel_rfl) (by kernel_rfl) (by kernel_rfl) (fun _ _ _ h => h) (Or.inl ⟨by rfl, ?hyT76⟩) (by assumption) ?rstT76
            case hyT76 => (intro w hSw; (try dsimp only at hSw); go_simp; (try with_reducible rfl))
            try simp only [Act.put, List.setIfInBounds_toArray, List.set_cons_zero, List.set_cons_succ]
            refine takeD (i := 14) (d := some 79) (v := ?vT77) rfl rfl (by kernel_rfl) (by kernel_rfl) (by kernel_rfl) (fun _ _ _ h => h) (Or.inl ⟨by rfl, ?hyT77⟩) (by assumption) ?rstT77
            case hyT77 => (intro w hSw; (try dsimp only at hSw); go_simp; (try with_reducible rfl))
            try simp only [Act.put, List.setIfInBounds_toArray, List.set_cons_zero, List.set_cons_succ]
            refine takeD (i := 15) (d := some 80) (v := ?vT78) rfl rfl (by kernel_rfl) (by kernel_rfl) (by kernel_rfl) (fun _ _ _ h => h) (Or.inl ⟨by rfl, ?hyT78⟩) (by assumption) ?rstT78
            case hyT78 => (intro w hSw; (try dsimp only at hSw); go_simp; (try with_reducible rfl))
            try simp only [Act.put, List.setIfInBounds_toArray, List.set_cons_zero, List.set_cons_succ]
            obtain ⟨z0, z1, z2, z3, z4, z5, z6, z7, z8, z9, z10, z11, z12⟩ := box13 hE
            have FZ : ∀ i, wD.frozen? ⟨wA.heap.size, i, none⟩ = false := fun i => Lib.frozen_of_heap hE i
            have hst := set13 hE (.int .i64 0) (.int .i64 0) (.int .i64 0) (.int .i64 0) (.int .i64 0) (.int .i64 0) (.int .i64 0) (.int .i64 0) (.string ⟨#[]⟩) (.slice none 0 0) (.int .i64 0) (.int .i64 0) (.bool false)
            obtain ⟨wF, ewF⟩ : ∃ W, (((((((((((((wD.setCell ⟨wA.heap.size, 0, none⟩ (.int .i64 0)).setCell ⟨wA.heap.size, 1, none⟩ (.int .i64 0)).setCell ⟨wA.heap.size, 2, none⟩ (.int .i64 0)).setCell ⟨wA.heap.size, 3, none⟩ (.int .i64 0)).setCell ⟨wA.heap.size, 4, none⟩ (.int .i64 0)).setCell ⟨wA.heap.size, 5, none⟩ (.int .i64 0)).setCell ⟨wA.heap.size, 6, none⟩ (.int .i64 0)).setCell ⟨wA.heap.size, 7, none⟩ (.int .i64 0)).setCell ⟨wA.heap.size, 8, none⟩ (.string ⟨#[]⟩)).setCell ⟨wA.heap.size, 9, none⟩ (.slice none 0 0)).setCell ⟨wA.heap.size, 10, none⟩ (.int .i64 0)).setCell ⟨wA.heap.size, 11, none⟩ (.int .i64 0)).setCell ⟨wA.heap.size, 12, none⟩ (.bool false)) = W := ⟨_, rfl⟩
            rw [ewF] at hst
            have hcurF : Below w7.heap.size w7 wF := hcur.trans (hst.2.below (B := w7.heap.size) (fun g e => by omega) hcur.size)
            refine wpAnyH_ready (rs := [17]) (by kernel_rfl) (by simp) ?_
            refine AllReadyH.cons rfl (fun K hK => ?_) AllReadyH.nil
            go_simp
            clear hcur
            have hcur := hcurF
            clear hHeld
            refine hK.out _ _ ?hS79 (fun hHeld => ?rest79)
            case hS79 => (intro q hq; first | exact hcur.cell hq | exact hcur.drew.cell hq)
            clear hK K
            try simp only [Act.put, List.setIfInBounds_toArray, List.set_cons_zero, List.set_cons_succ]
            refine takeD (i := 18) (d := some 12) (v := ?vT80) rfl rfl (by kernel_rfl) (by kernel_rfl) (by kernel_rfl) (fun _ _ _ h => h) (Or.inl ⟨by rfl, ?hyT80⟩) (by assumption) ?rstT80
            case hyT80 => (intro w hSw; (try dsimp only at hSw); go_simp; (try with_reducible rfl))
            try simp only [Act.put, List.setIfInBounds_toArray, List.set_cons_zero, List.set_cons_succ]
            refine takeD (i := 19) (d := some 13) (v := ?vT81) rfl rfl (by kernel_rfl) (by kernel_rfl) (by kernel_rfl) (fun _ _ _ h => h) (Or.inl ⟨by rfl, ?hyT81⟩) (by assumption) ?rstT81
            case hyT81 => (intro w hSw; (try dsimp only at hSw); go_simp; (try with_reducible rfl))
            try simp only [Act.put, List.setIfInBounds_toArray, List.set_cons_zero, List.set_cons_succ]
            refine wpAnyH_done (by kernel_rfl) ?_ _
            clear hHeld
            go_wp2_with fail
            go_meet
            case rel => exact ⟨rfl, rfl, by first | exact hcurF | exact hcurF.drew⟩
        case bB25 =>
          have hcu := hcur.size
          obtain ⟨wE, ewE⟩ : ∃ W, wA.alloc (.cells #[.int .i64 0, .int .i64 0, .int .i64 0, .int .i64 0, .int .i64 0, .int .i64 0, .int .i64 0, .int .i64 0, .string ⟨#[]⟩, .slice none 0 0, .int .i64 0, .int .i64 0, .bool false] 37) = W := ⟨_, rfl⟩
          have hbE : Below wA.heap.size wA wE := ewE ▸ (Below.refl _ _).alloc (Nat.le_refl _) _
          go_simp
          have hRA2 := hRA.below hbE
          clear hRA
          have hRA := hRA2
          clear hRA2
          have hcur2 : Below w7.heap.size w7 wE := hcur.trans (hbE.mono hcur.size)
          clear hcur
          have hcur := hcur2
          clear hcur2
          have hE : wE.heap[wA.heap.size]? = some (.cells #[.int .i64 0, .int .i64 0, .int .i64 0, .int .i64 0, .int .i64 0, .int .i64 0, .int .i64 0, .int .i64 0, .string ⟨#[]⟩, .slice none 0 0, .int .i64 0, .int .i64 0, .bool false] 37) := ewE ▸ heap_alloc_new _ _
          have hEw : w7.heap.size ≤ wA.heap.size := hcu
          clear hbE ewE
          clear hHeld
          refine hK.out _ _ ?hS82 (fun hHeld => ?rest82)
          case hS82 => (intro q hq; first | exact hcur.cell hq | exact hcur.drew.cell hq)
          clear hK K
          try simp only [Act.put, List.setIfInBounds_toArray, List.set_cons_zero, List.set_cons_succ]
          refine wpAnyH_ready (rs := [6]) (by kernel_rfl) (by simp) ?_
          refine AllReadyH.cons rfl (fun K hK => ?_) AllReadyH.nil
          have hcvB := conv_bytes hRA (by omega) (by intro z hz; simp at hz; omega)
          go_simp
          clear hcvB
          clear hHeld
          refine hK.out _ _ ?hS83 (fun hHeld => ?rest83)
          case hS83 => (intro q hq; first | exact hcur.cell hq | exact hcur.drew.cell hq)
          clear hK K
          try simp only [Act.put, List.setIfInBounds_toArray, List.set_cons_zero, List.set_cons_succ]
          refine takeD (i := 7) (d := some 73) (v := ?vT84) rfl rfl (by kernel_rfl) (by kernel_rfl) (by kernel_rfl) (fun _ _ _ h => h) (Or.inl ⟨by rfl, ?hyT84⟩) (by assumption) ?rstT84
          case hyT84 => (intro w hSw; (try dsimp only at hSw); go_simp; (try with_reducible rfl))
          try simp only [Act.put, List.setIfInBounds_toArray, List.set_cons_zero, List.set_cons_succ]
          refine takeD (i := 9) (d := some 75) (v := ?vT85) rfl rfl (by kernel_rfl) (by kernel_rfl) (by kernel_rfl) (fun _ _ _ h => h) (Or.inl ⟨by rfl, ?hyT85⟩) (by assumption) ?rstT85
          case hyT85 => (intro w hSw; (try dsimp only at hSw); go_simp; (try with_reducible rfl))
          try simp only [Act.put, List.setIfInBounds_toArray, List.set_cons_zero, List.set_cons_succ]
          refine wpAnyH_ready (rs := [10]) (by kernel_rfl) (by simp) ?_
          refine AllReadyH.cons rfl (fun K hK => ?_) AllReadyH.nil
          obtain ⟨cpC, wC, hrC, hRC, hbC, hsC⟩ := back_bytes wE [1, 128 + k, 0, x] (by intro z hz; simp at hz; omega) (by simp)
          simp only [List.length_cons, List.length_nil, Nat.zero_add, Nat.reduceAdd] at hrC
          go_simp
          clear hrC
          have hE2 := (hbC.block _ (Array.getElem?_eq_some_iff.1 hE).1).trans hE
          clear hE
          have hE := hE2
          clear hE2
          have hcur2 : Below w7.heap.size w7 wC := hcur.trans (hbC.mono hcur.size)
          clear hcur
          have hcur := hcur2
          clear hcur2
          clear hbC
          clear hHeld
          refine hK.out _ _ ?hS90 (fun hHeld => ?rest90)
          case hS90 => (intro q hq; first | exact hcur.cell hq | exact hcur.drew.cell hq)
          clear hK K
          try simp only [Act.put, List.setIfInBounds_toArray, List.set_cons_zero, List.set_cons_succ]
          refine wpAnyH_ready (rs := [11]) (by kernel_rfl) (by simp) ?_
          refine AllReadyH.cons rfl (fun K hK => ?_) AllReadyH.nil
          have HD2 := decode_hello hRC (fun g e => by cases e; exact hsC) (by intro z hz; simp at hz; omega) 1 (code_one _ _)
          rw [show [1, 128 + k, 0, x] = 1 :: (128 + k) :: 0 :: [x] from rfl, hello_client _ _ (numP_grown1 k _ (by omega))] at HD2
          simp only [List.length_cons, List.length_nil, Nat.zero_add, Nat.reduceAdd] at HD2
          go_simp
          refine HD2.mono ?_
          rintro e2 wD ⟨rfl, hbD⟩
          clear HD2
          unfold zeroV
          have hE2 := (hbD.block _ (Array.getElem?_eq_some_iff.1 hE).1).trans hE
          clear hE
          have hE := hE2
          clear hE2
          have hcur2 : Below w7.heap.size w7 wD := hcur.trans (hbD.mono hcur.size)
          clear hcur
          have hcur := hcur2
          clear hcur2
          clear hbD
          clear hHeld
          refine hK.out _ _ ?hS97 (fun hHeld => ?rest97)
          case hS97 => (intro q hq; first | exact hcur.cell hq | exact hcur.drew.cell hq)
          clear hK K
          try simp only [Act.put, List.setIfInBounds_toArray, List.set_cons_zero, List.set_cons_succ]
          refine takeD (i := 12) (d := some 65) (v := ?vT100) rfl rfl (by kernel_rfl) (by kernel_rfl) (by kernel_rfl) (fun _ _ _ h => h) (Or.inl ⟨by rfl, ?hyT100⟩) (by assumption) ?rstT100
          case hyT100 => (intro w hSw; (try dsimp only at hSw); go_simp; (try with_reducible rfl))
          try simp only [Act.put, List.setIfInBounds_toArray, List.set_cons_zero, List.set_cons_succ]
          refine takeD (i := 13) (d := some 78) (v := ?vT101) rfl rfl (by kernel_rfl) (by kernel_rfl) (by kernel_rfl) (fun _ _ _ h => h) (Or.inl ⟨by rfl, ?hyT101⟩) (by assumption) ?rstT101
          case hyT101 => (intro w hSw; (try dsimp only at hSw); go_simp; (try with_reducible rfl))
          try simp only [Act.put, List.setIfInBounds_toArray, List.set_cons_zero, List.set_cons_succ]
          refine takeD (i := 14) (d := some 79) (v := ?vT102) rfl rfl (by kernel_rfl) (by kernel_rfl) (by kernel_rfl) (fun _ _ _ h => h) (Or.inl ⟨by rfl, ?hyT102⟩) (by assumption) ?rstT102
          case hyT102 => (intro w hSw; (try dsimp only at hSw); go_simp; (try with_reducible rfl))
          try simp only [Act.put, List.setIfInBounds_toArray, List.set_cons_zero, List.set_cons_succ]
          refine takeD (i := 15) (d := some 80) (v := ?vT103) rfl rfl (by kernel_rfl) (by kernel_rfl) (by kernel_rfl) (fun _ _ _ h => h) (Or.inl ⟨by rfl, ?hyT103⟩) (by assumption) ?rstT103
          case hyT103 => (intro w hSw; (try dsimp only at hSw); go_simp; (try with_reducible rfl))
          try simp only [Act.put, List.setIfInBounds_toArray, List.set_cons_zero, List.set_cons_succ]
          obtain ⟨z0, z1, z2, z3, z4, z5, z6, z7, z8, z9, z10, z11, z12⟩ := box13 hE
          have FZ : ∀ i, wD.frozen? ⟨wA.heap.size, i, none⟩ = false := fun i => Lib.frozen_of_heap hE i
          have hst := set13 hE (.int .i64 0) (.int .i64 0) (.int .i64 0) (.int .i64 0) (.int .i64 0) (.int .i64 0) (.int .i64 0) (.int .i64 0) (.string ⟨#[]⟩) (.slice none 0 0) (.int .i64 0) (.int .i64 0) (.bool false)
          obtain ⟨wF, ewF⟩ : ∃ W, (((((((((((((wD.setCell ⟨wA.heap.size, 0, none⟩ (.int .i64 0)).setCell ⟨wA.heap.size, 1, none⟩ (.int .i64 0)).setCell ⟨wA.heap.size, 2, none⟩ (.int .i64 0)).setCell ⟨wA.heap.size, 3, none⟩ (.int .i64 0)).setCell ⟨wA.heap.size, 4, none⟩ (.int .i64 0)).setCell ⟨wA.heap.size, 5, none⟩ (.int .i64 0)).setCell ⟨wA.heap.size, 6, none⟩ (.int .i64 0)).setCell ⟨wA.heap.size, 7, none⟩ (.int .i64 0)).setCell ⟨wA.heap.size, 8, none⟩ (.string ⟨#[]⟩)).setCell ⟨wA.heap.size, 9, none⟩ (.slice none 0 0)).setCell ⟨wA.heap.size, 10, none⟩ (.int .i64 0)).setCell ⟨wA.heap.size, 11, none⟩ (.int .i64 0)).setCell ⟨wA.heap.size, 12, none⟩ (.bool false)) = W := ⟨_, rfl⟩
          rw [ewF] at hst
          have hcurF : Below w7.heap.size w7 wF := hcur.trans (hst.2.below (B := w7.heap.size) (fun g e => by omega) hcur.size)
          refine wpAnyH_ready (rs := [17]) (by kernel_rfl) (by simp) ?_
          refine AllReadyH.cons rfl (fun K hK => ?_) AllReadyH.nil
          go_simp
          clear hcur
          have hcur := hcurF
          clear hHeld
          refine hK.out _ _ ?hS104 (fun hHeld => ?rest104)
          case hS104 => (intro q hq; first | exact hcur.cell hq | exact hcur.drew.cell hq)
          clear hK K
          try simp only [Act.put, List.setIfInBounds_toArray, List.set_cons_zero, List.set_cons_succ]
          refine takeD (i := 18) (d := some 12) (v := ?vT105) rfl rfl (by kernel_rfl) (by kernel_rfl) (by kernel_rfl) (fun _ _ _ h => h) (Or.inl ⟨by rfl, ?hyT105⟩) (by assumption) ?rstT105
          case hyT105 => (intro w hSw; (try dsimp only at hSw); go_simp; (try with_reducible rfl))
          try simp only [Act.put, List.setIfInBounds_toArray, List.set_cons_zero, List.set_cons_succ]
          refine takeD (i := 19) (d := some 13) (v := ?vT106) rfl rfl (by kernel_rfl) (by kernel_rfl) (by kernel_rfl) (fun _ _ _ h => h) (Or.inl ⟨by rfl, ?hyT106⟩) (by assumption) ?rstT106
          case hyT106 => (intro w hSw; (try dsimp only at hSw); go_simp; (try with_reducible rfl))
          try simp only [Act.put, List.setIfInBounds_toArray, List.set_cons_zero, List.set_cons_succ]
          refine wpAnyH_done (by kernel_rfl) ?_ _
          clear hHeld
          go_wp2_with fail
          go_meet
          case rel => exact ⟨rfl, rfl, by first | exact hcurF | exact hcurF.drew⟩
      case bB17 =>
        obtain ⟨wE, ewE⟩ : ∃ W, (w7.alloc (.cells #[.int .i64 0, .int .i64 0, .int .i64 0, .int .i64 0, .int .i64 0, .int .i64 0, .int .i64 0, .int .i64 0, .string ⟨#[]⟩, .slice none 0 0, .int .i64 0, .int .i64 0, .bool false] 37)).drew = W := ⟨_, rfl⟩
        have hbE : Below w7.drew.heap.size w7.drew wE := by rw [← ewE]; exact (show Below w7.drew.heap.size w7.drew (w7.drew.alloc (.cells #[.int .i64 0, .int .i64 0, .int .i64 0, .int .i64 0, .int .i64 0, .int .i64 0, .int .i64 0, .int .i64 0, .string ⟨#[]⟩, .slice none 0 0, .int .i64 0, .int .i64 0, .bool false] 37)) from (Below.refl _ _).alloc (Nat.le_refl _) _)
        go_simp
        have hcur2 : Below w7.heap.size w7 wE := hcur.trans (hbE.mono hcur.size)
        clear hcur
        have hcur := hcur2
        clear hcur2
        have hE : wE.heap[w7.heap.size]? = some (.cells #[.int .i64 0, .int .i64 0, .int .i64 0, .int .i64 0, .int .i64 0, .int .i64 0, .int .i64 0, .int .i64 0, .string ⟨#[]⟩, .slice none 0 0, .int .i64 0, .int .i64 0, .bool false] 37) := ewE ▸ heap_alloc_new _ _
        have hEw : w7.heap.size ≤ w7.heap.size := Nat.le_refl _
        clear hbE ewE
        clear hHeld
        refine hK.out _ _ ?hS107 (fun hHeld => ?rest107)
        case hS107 => (intro q hq; first | exact hcur.cell hq | exact hcur.drew.cell hq)
        clear hK K
        try simp only [Act.put, List.setIfInBounds_toArray, List.set_cons_zero, List.set_cons_succ]
        refine wpAnyH_ready (rs := [5]) (by kernel_rfl) (by simp) ?_
        refine AllReadyH.cons rfl (fun K hK => ?_) AllReadyH.nil
        go_simp
        refine (HGr.out _ hcur).mono ?_
        rintro e2 wA ⟨vA, rfl, hoA, hbA⟩
        obtain ⟨aA, capA, hvA⟩ := hoA.shape
        have hvA' : vA = .slice aA 2 capA := hvA
        subst hvA'
        clear hvA
        have hE2 := (hbA.block _ (Array.getElem?_eq_some_iff.1 hE).1).trans hE
        clear hE
        have hE := hE2
        clear hE2
        have hcur2 : Below w7.heap.size w7 wA := hcur.trans (hbA.mono hcur.size)
        clear hcur
        have hcur := hcur2
        clear hcur2
        have hRA := hoA.rw_ layB
        clear hoA hbA
        clear hHeld
        refine hK.out _ _ ?hS108 (fun hHeld => ?rest108)
        case hS108 => (intro q hq; first | exact hcur.cell hq | exact hcur.drew.cell hq)
        clear hK K
        try simp only [Act.put, List.setIfInBounds_toArray, List.set_cons_zero, List.set_cons_succ]
        refine wpAnyH_ready (rs := [6]) (by kernel_rfl) (by simp) ?_
        refine AllReadyH.cons rfl (fun K hK => ?_) AllReadyH.nil
        have hcvB := conv_bytes hRA (by omega) (by intro z hz; simp at hz; omega)
        go_simp
        clear hcvB
        clear hHeld
        refine hK.out _ _ ?hS115 (fun hHeld => ?rest115)
        case hS115 => (intro q hq; first | exact hcur.cell hq | exact hcur.drew.cell hq)
        clear hK K
        try simp only [Act.put, List.setIfInBounds_toArray, List.set_cons_zero, List.set_cons_succ]
        refine takeD (i := 7) (d := some 73) (v := ?vT116) rfl rfl (by kernel_rfl) (by kernel_rfl) (by kernel_rfl) (fun _ _ _ h => h) (Or.inl ⟨by rfl, ?hyT116⟩) (by assumption) ?rstT116
        case hyT116 => (intro w hSw; (try dsimp only at hSw); go_simp; (try with_reducible rfl))
        try simp only [Act.put, List.setIfInBounds_toArray, List.set_cons_zero, List.set_cons_succ]
        refine takeD (i := 9) (d := some 75) (v := ?vT117) rfl rfl (by kernel_rfl) (by kernel_rfl) (by kernel_rfl) (fun _ _ _ h => h) (Or.inl ⟨by rfl, ?hyT117⟩) (by assumption) ?rstT117
        case hyT117 => (intro w hSw; (try dsimp only at hSw); go_simp; (try with_reducible rfl))
        try simp only [Act.put, List.setIfInBounds_toArray, List.set_cons_zero, List.set_cons_succ]
        refine wpAnyH_ready (rs := [10]) (by kernel_rfl) (by simp) ?_
        refine AllReadyH.cons rfl (fun K hK => ?_) AllReadyH.nil
        obtain ⟨cpC, wC, hrC, hRC, hbC, hsC⟩ := back_bytes wA [1, 128 + k, 0, x] (by intro z hz; simp at hz; omega) (by simp)
        simp only [List.length_cons, List.length_nil, Nat.zero_add, Nat.reduceAdd] at hrC
        go_simp
        clear hrC
        have hE2 := (hbC.block _ (Array.getElem?_eq_some_iff.1 hE).1).trans hE
        clear hE
        have hE := hE2
        clear hE2
        have hcur2 : Below w7.heap.size w7 wC := hcur.trans (hbC.mono hcur.size)
        clear hcur
        have hcur := hcur2
        clear hcur2
        clear hbC
        clear hHeld
        refine hK.out _ _ ?hS122 (fun hHeld => ?rest122)
        case hS122 => (intro q hq; first | exact hcur.cell hq | exact hcur.drew.cell hq)
        clear hK K
        try simp only [Act.put, List.setIfInBounds_toArray, List.set_cons_zero, List.set_cons_succ]
        refine wpAnyH_ready (rs := [11]) (by kernel_rfl) (by simp) ?_
        refine AllReadyH.cons rfl (fun K hK => ?_) AllReadyH.nil
        have HD2 := decode_hello hRC (fun g e => by cases e; exact hsC) (by intro z hz; simp at hz; omega) 1 (code_one _ _)
        rw [show [1, 128 + k, 0, x] = 1 :: (128 + k) :: 0 :: [x] from rfl, hello_client _ _ (numP_grown1 k _ (by omega))] at HD2
        simp only [List.length_cons, List.length_nil, Nat.zero_add, Nat.reduceAdd] at HD2
        go_simp
        refine HD2.mono ?_
        rintro e2 wD ⟨rfl, hbD⟩
        clear HD2
        unfold zeroV
        have hE2 := (hbD.block _ (Array.getElem?_eq_some_iff.1 hE).1).trans hE
        clear hE
        have hE := hE2
        clear hE2
        have hcur2 : Below w7.heap.size w7 wD := hcur.trans (hbD.mono hcur.size)
        clear hcur
        have hcur := hcur2
        clear hcur2
        clear hbD
        clear hHeld
        refine hK.out _ _ ?hS129 (fun hHeld => ?rest129)
        case hS129 => (intro q hq; first | exact hcur.cell hq | exact hcur.drew.cell hq)
        clear hK K
        try simp only [Act.put, List.setIfInBounds_toArray, List.set_cons_zero, List.set_cons_succ]
        refine takeD (i := 12) (d := some 65) (v := ?vT132) rfl rfl (by kernel_rfl) (by kernel_rfl) (by kernel_rfl) (fun _ _ _ h => h) (Or.inl ⟨by rfl, ?hyT132⟩) (by assumption) ?rstT132
        case hyT132 => (intro w hSw; (try dsimp only at hSw); go_simp; (try with_reducible rfl))
        try simp only [Act.put, List.setIfInBounds_toArray, List.set_cons_zero, List.set_cons_succ]
        refine takeD (i := 13) (d := some 78) (v := ?vT133) rfl rfl (by kernel_rfl) (by kernel_rfl) (by kernel_rfl) (fun _ _ _ h => h) (Or.inl ⟨by rfl, ?hyT133⟩) (by assumption) ?rstT133
        case hyT133 => (intro w hSw; (try dsimp only at hSw); go_simp; (try with_reducible rfl))
        try simp only [Act.put, List.setIfInBounds_toArray, List.set_cons_zero, List.set_cons_succ]
        refine takeD (i := 14) (d := some 79) (v := ?vT134) rfl rfl (by kernel_rfl) (by kernel_rfl) (by kernel_rfl) (fun _ _ _ h => h) (Or.inl ⟨by rfl, ?hyT134⟩) (by assumption) ?rstT134
        case hyT134 => (intro w hSw; (try dsimp only at hSw); go_simp; (try with_reducible rfl))
        try simp only [Act.put, List.setIfInBounds_toArray, List.set_cons_zero, List.set_cons_succ]
        refine takeD (i := 15) (d := some 80) (v := ?vT135) rfl rfl (by kernel_rfl) (by kernel_rfl) (by kernel_rfl) (fun _ _ _ h => h) (Or.inl ⟨by rfl, ?hyT135⟩) (by assumption) ?rstT135
        case hyT135 => (intro w hSw; (try dsimp only at hSw); go_simp; (try with_reducible rfl))
        try simp only [Act.put, List.setIfInBounds_toArray, List.set_cons_zero, List.set_cons_succ]
        obtain ⟨z0, z1, z2, z3, z4, z5, z6, z7, z8, z9, z10, z11, z12⟩ := box13 hE
        have FZ : ∀ i, wD.frozen? ⟨w7.heap.size, i, none⟩ = false := fun i => Lib.frozen_of_heap hE i
        have hst := set13 hE (.int .i64 0) (.int .i64 0) (.int .i64 0) (.int .i64 0) (.int .i64 0) (.int .i64 0) (.int .i64 0) (.int .i64 0) (.string ⟨#[]⟩) (.slice none 0 0) (.int .i64 0) (.int .i64 0) (.bool false)
        obtain ⟨wF, ewF⟩ : ∃ W, (((((((((((((wD.setCell ⟨w7.heap.size, 0, none⟩ (.int .i64 0)).setCell ⟨w7.heap.size, 1, none⟩ (.int .i64 0)).setCell ⟨w7.heap.size, 2, none⟩ (.int .i64 0)).setCell ⟨w7.heap.size, 3, none⟩ (.int .i64 0)).setCell ⟨w7.heap.size, 4, none⟩ (.int .i64 0)).setCell ⟨w7.heap.size, 5, none⟩ (.int .i64 0)).setCell ⟨w7.heap.size, 6, none⟩ (.int .i64 0)).setCell ⟨w7.heap.size, 7, none⟩ (.int .i64 0)).setCell ⟨w7.heap.size, 8, none⟩ (.string ⟨#[]⟩)).setCell ⟨w7.heap.size, 9, none⟩ (.slice none 0 0)).setCell ⟨w7.heap.size, 10, none⟩ (.int .i64 0)).setCell ⟨w7.heap.size, 11, none⟩ (.int .i64 0)).setCell ⟨w7.heap.size, 12, none⟩ (.bool false)) = W := ⟨_, rfl⟩
        rw [ewF] at hst
        have hcurF : Below w7.heap.size w7 wF := hcur.trans (hst.2.below (B := w7.heap.size) (fun g e => by omega) hcur.size)
        refine wpAnyH_ready (rs := [17]) (by kernel_rfl) (by simp) ?_
        refine AllReadyH.cons rfl (fun K hK => ?_) AllReadyH.nil
        go_simp
        clear hcur
        have hcur := hcurF
        clear hHeld
        refine hK.out _ _ ?hS136 (fun hHeld => ?rest136)
        case hS136 => (intro q hq; first | exact hcur.cell hq | exact hcur.drew.cell hq)
        clear hK K
        try simp only [Act.put, List.setIfInBounds_toArray, List.set_cons_zero, List.set_cons_succ]
        refine takeD (i := 18) (d := some 12) (v := ?vT137) rfl rfl (by kernel_rfl) (by kernel_rfl) (by kernel_rfl) (fun _ _ _ h => h) (Or.inl ⟨by rfl, ?hyT137⟩) (by assumption) ?rstT137
        case hyT137 => (intro w hSw; (try dsimp only at hSw); go_simp; (try with_reducible rfl))
        try simp only [Act.put, List.setIfInBounds_toArray, List.set_cons_zero, List.set_cons_succ]
        refine takeD (i := 19) (d := some 13) (v := ?vT138) rfl rfl (by kernel_rfl) (by kernel_rfl) (by kernel_rfl) (fun _ _ _ h => h) (Or.inl ⟨by rfl, ?hyT138⟩) (by assumption) ?rstT138
        case hyT138 => (intro w hSw; (try dsimp only at hSw); go_simp; (try with_reducible rfl))
        try simp only [Act.put, List.setIfInBounds_toArray, List.set_cons_zero, List.set_cons_succ]
        refine wpAnyH_done (by kernel_rfl) ?_ _
        clear hHeld
        go_wp2_with fail
        go_meet
        case rel => exact ⟨rfl, rfl, by first | exact hcurF | exact hcurF.drew⟩
    case rest =>
      obtain ⟨rfl, rfl, hbc⟩ := hcut
      have hb2c : Below w2.heap.size w2 wc := HK7.out.trans (hbc.mono HK7.out.size)
      clear HV3 HGr hcatA hcatB zs1 zs2 zs3 zs4 C3 C4 hbc HK7 ew7 HK
      have zs5 : (strB [1, k]).size = 2 := strB_size _
      have hcat1 : strB [1, k] ++ (⟨#[128, 128, 128, 128, 1]⟩ : ByteArray) = strB [1, k, 128, 128, 128, 128, 1] := strB_append [1, k] [128, 128, 128, 128, 1]
      have hcat2 : strB [1, k] ++ (⟨#[129, 64]⟩ : ByteArray) = strB [1, k, 129, 64] := strB_append [1, k] [129, 64]
      obtain ⟨cp8, w8, hr8, hR8, hb8, hs8⟩ := back_bytes wc [1, k, 128, 128, 128, 128, 1] (by intro z hz; simp at hz; omega) (by simp)
      have HD := decode_hello hR8 (fun g e => by cases e; exact hs8) (by intro z hz; simp at hz; omega) 1 (code_one _ _)
      rw [hello_rev _ k [128, 128, 128, 128, 1] hk 2 101 (rev_five _)] at HD
      simp only [List.length_cons, List.length_nil, Nat.zero_add, Nat.reduceAdd] at hr8 HD
      have hb28 := hb2c.trans (hb8.mono hb2c.size)
      clear hR8 hs8 hb8 hb2c
      go_wp2_with fail
      refine HD.mono ?_
      rintro e w9 ⟨rfl, hb9⟩
      clear HD hr8
      unfold zeroV
      have hb2a : Below w2.heap.size w2 (w9.alloc (.cells #[.int .i64 0, .int .i64 0, .int .i64 0, .int .i64 0, .int .i64 0, .int .i64 0, .int .i64 0, .int .i64 0, .string ⟨#[]⟩, .slice none 0 0, .int .i64 0, .int .i64 0, .bool false] 37)) := (hb28.trans (hb9.mono hb28.size)).alloc (by have := hb28.size; have := hb9.size; omega) _
      obtain ⟨cpb, wb, hrb, hRb, hbb, hsb⟩ := back_bytes (w9.alloc (.cells #[.int .i64 0, .int .i64 0, .int .i64 0, .int .i64 0, .int .i64 0, .int .i64 0, .int .i64 0, .int .i64 0, .string ⟨#[]⟩, .slice none 0 0, .int .i64 0, .int .i64 0, .bool false] 37)) [1, k, 129, 64] (by intro z hz; simp at hz; omega) (by simp)
      have HD := decode_hello hRb (fun g e => by cases e; exact hsb) (by intro z hz; simp at hz; omega) 1 (code_one _ _)
      rw [hello_rev _ k [129, 64] hk 2 104 (rev_above _)] at HD
      simp only [List.length_cons, List.length_nil, Nat.zero_add, Nat.reduceAdd, World.size_alloc] at hrb HD
      have hb2b := hb2a.trans (hbb.mono hb2a.size)
      clear hRb hsb hbb hb2a hb28 hb9
      go_wp2_with fail
      refine HD.mono ?_
      rintro e wd ⟨rfl, hbd⟩
      clear HD hrb hcat1 hcat2 zs5
      unfold zeroV
      have hb2d := hb2b.trans (hbd.mono hb2b.size)
      clear hb2b hbd
      obtain ⟨hbw2, hM2⟩ := HB2.out
      have hMl := (Array.getElem?_eq_some_iff.1 hM2).1
      have hMd := (hb2d.block _ hMl).trans hM2
      obtain ⟨m0, m1, m2, m3, m4, m5, m6, m7, m8, m9, m10, m11, m12⟩ := box13 hMd
      have FM : ∀ i, wd.frozen? ⟨w1.heap.size, i, none⟩ = false := fun i => Lib.frozen_of_heap hMd i
      have hMlt : w1.heap.size < wd.heap.size := (Array.getElem?_eq_some_iff.1 hMd).1
      have HN : Hid (Below w.heap.size w wd ∧ wd.heap[w1.heap.size]? = some (.cells #[.int .i64 1, .int .i64 (k : Int), .int .i64 (r : Int), .int .i64 0, .int .i64 0, .int .i64 0, .int .i64 0, .int .i64 0, .string ⟨#[]⟩, .slice none 0 0, .int .i64 0, .int .i64 0, .bool false] 37) ∧ w.heap.size ≤ w1.heap.size) := ⟨hbw2.trans (hb2d.mono hbw2.size), hMd, HW1.out⟩
      clear hbw2 hM2 hMl hMd hb2d HB2
      go_wp2_with fail
      refine (encode_ok _ k 8192 hk (by omega)).mono ?_
      rintro e we ⟨v9, rfl, _, hbe⟩
      clear m0 m1 m2 m3 m4 m5 m6 m7 m8 m9 m10 m11 m12 FM
      obtain ⟨hbwd, hMd, hww⟩ := HN.out
      clear HN
      have hbs0 : Below w.heap.size w (wd.setCell ⟨w1.heap.size, 2, none⟩ (.int .i64 8192)) := hbwd.setCell hww _
      have hbs := hbs0.alloc hbs0.size (.cells #[.int .i64 0, .int .i64 0, .int .i64 0, .int .i64 0, .int .i64 0, .int .i64 0, .int .i64 0, .int .i64 0, .string ⟨#[]⟩, .slice none 0 0, .int .i64 0, .int .i64 0, .bool false] 37)
      have hsz : (wd.setCell ⟨w1.heap.size, 2, none⟩ (.int .i64 8192)).heap.size = wd.heap.size := by simp [World.setCell]
      have hMs : (wd.setCell ⟨w1.heap.size, 2, none⟩ (.int .i64 8192)).heap[w1.heap.size]? = some (.cells #[.int .i64 1, .int .i64 (k : Int), .int .i64 8192, .int .i64 0, .int .i64 0, .int .i64 0, .int .i64 0, .int .i64 0, .string ⟨#[]⟩, .slice none 0 0, .int .i64 0, .int .i64 0, .bool false] 37) := heap_setCell_cells hMd 2 _
      have hMe : we.heap[w1.heap.size]? = some (.cells #[.int .i64 1, .int .i64 (k : Int), .int .i64 8192, .int .i64 0, .int .i64 0, .int .i64 0, .int .i64 0, .int .i64 0, .string ⟨#[]⟩, .slice none 0 0, .int .i64 0, .int .i64 0, .bool false] 37) := (hbe.block _ (by rw [World.size_alloc, hsz]; omega)).trans ((Below.heap_alloc _ _ _ (by rw [hsz]; exact hMlt)).trans hMs)
      have hbe2 : Below w.heap.size w we := hbs.trans (hbe.mono hbs.size)
      obtain ⟨m0, m1, m2, m3, m4, m5, m6, m7, m8, m9, m10, m11, m12⟩ := box13 hMe
      have FM : ∀ i, we.frozen? ⟨w1.heap.size, i, none⟩ = false := fun i => Lib.frozen_of_heap hMe i
      have HN : Hid (Below w.heap.size w we ∧ w.heap.size ≤ w1.heap.size) := ⟨hbe2, hww⟩
      clear hbwd hMd hww hbs hbs0 hsz hMs hMe hbe hbe2 hMlt
      go_wp2_with fail
      refine (encode_rev _ k 8193 (by omega) (by omega)).mono ?_
      rintro e wf ⟨rfl, hbf⟩
      clear m0 m1 m2 m3 m4 m5 m6 m7 m8 m9 m10 m11 m12 FM
      go_wp2_with fail
      go_ret
      obtain ⟨hbe2, hww⟩ := HN.out
      have hbs : Below w.heap.size w (we.setCell ⟨w1.heap.size, 2, none⟩ (.int .i64 8193)) := hbe2.setCell hww _
      exact ⟨rfl, hbs.trans (hbf.mono hbs.size)⟩
  · skip
    have hlL : encL [1, k, r] = [1, k, y, x] := hl
    rw [hlL] at ho
    obtain ⟨a, cap, hv⟩ := ho.shape
    have hv' : v1 = .slice a 4 cap := hv
    subst hv'
    clear hv
    have hb := ho.rw_ layB
    obtain ⟨g, off, rfl, hg, _⟩ := hb.cells (by omega)
    have hroom := hb.room
    simp only [maxLen] at hroom
    have C1 : ∀ W : World, (Instr.slice 39 (.slice (some ⟨g, off, none⟩) 4 cap) none (some (.int .i64 2)) none).run Tryd.prog W = .ok (.slice (some ⟨g, off, none⟩) 2 cap) W := fun W => cut_high kindB elemB W _ 4 cap 2 (by omega)
    have C2 : ∀ W : World, (Instr.slice 39 (.slice (some ⟨g, off, none⟩) 4 cap) (some (.int .i64 2)) none none).run Tryd.prog W = .ok (.slice (some ⟨g, off + 2, none⟩) 2 (cap - 2)) W := fun W => cut_low kindB elemB W g off 4 cap 2 (by omega) (by omega)
    have C3 : ∀ W : World, (Instr.slice 39 (.slice (some ⟨g, off, none⟩) 4 cap) none (some (.int .i64 1)) none).run Tryd.prog W = .ok (.slice (some ⟨g, off, none⟩) 1 cap) W := fun W => cut_high kindB elemB W _ 4 cap 1 (by omega)
    have C4 : ∀ W : World, (Instr.slice 39 (.slice (some ⟨g, off, none⟩) 4 cap) (some (.int .i64 1)) (some (.int .i64 2)) none).run Tryd.prog W = .ok (.slice (some ⟨g, off + 1, none⟩) 1 (cap - 1)) W := fun W => cut_both kindB elemB W g off 4 cap 1 2 (by omega) (by omega) (by omega)
    have HV1 : Hid (∀ W : World, (∀ q, W.cell? q = w2.cell? q) → (convert 39 9 (.slice (some ⟨g, off, none⟩) 2 cap)).run Tryd.prog W = .ok (.string (strB [1, k])) W) := fun W hW => conv_cells [1, k] cap (fun j z hj => (hW _).trans ((hb.take 2 (by omega)).byte (by omega) j z hj)) (by intro z hz; simp at hz; omega)
    have HV2 : Hid (∀ W : World, (∀ q, W.cell? q = w2.cell? q) → (convert 39 9 (.slice (some ⟨g, off + 2, none⟩) 2 (cap - 2))).run Tryd.prog W = .ok (.string (strB [y, x])) W) := fun W hW => conv_cells [y, x] (cap - 2) (fun j z hj => (hW _).trans ((hb.drop 2 (by omega)).byte (by omega) j z hj)) (by intro z hz; simp at hz; omega)
    have HK : Hid (Rw byV 1 w2 (some ⟨g, off, none⟩) 4 cap [1, k, y, x] ∧ 3 ≤ cap ∧ g < w2.heap.size) := ⟨hb, by omega, hg⟩
    clear hb hroom hg ho hl hlL
    go_wp2_with fail
    refine wp_region_held_drew (S := (fun W => ∀ q : Addr, W.cell? q = w2.cell? q)) (by kernel_rfl) ?hS139 (fun hHeld => ?rest139)
    case hS139 => (intro q; rfl)
    refine takeD (i := 0) (d := some 47) (v := ?vT140) rfl rfl (by kernel_rfl) (by kernel_rfl) (by kernel_rfl) (fun _ _ _ h => h) (Or.inl ⟨by rfl, ?hyT140⟩) (by assumption) ?rstT140
    case hyT140 => (intro w hSw; (try dsimp only at hSw); go_simp; (try with_reducible rfl))
    try simp only [Act.put, List.setIfInBounds_toArray, List.set_cons_zero, List.set_cons_succ]
    refine takeD (i := 1) (d := some 48) (v := ?vT141) rfl rfl (by kernel_rfl) (by kernel_rfl) (by kernel_rfl) (fun _ _ _ h => h) (Or.inl ⟨by rfl, ?hyT141⟩) (by assumption) ?rstT141
    case hyT141 => (intro w hSw; (try dsimp only at hSw); go_simp; (try with_reducible rfl))
    try simp only [Act.put, List.setIfInBounds_toArray, List.set_cons_zero, List.set_cons_succ]
    refine takeD (i := 2) (d := some 49) (v := ?vT142) rfl rfl (by kernel_rfl) (by kernel_rfl) (by kernel_rfl) (fun _ _ _ h => h) (Or.inl ⟨by rfl, ?hyT142⟩) (by assumption) ?rstT142
    case hyT142 => (intro w hSw; have hcv := HV1.out w hSw; clear hSw; go_simp; (try with_reducible rfl))
    try simp only [Act.put, List.setIfInBounds_toArray, List.set_cons_zero, List.set_cons_succ]
    refine takeD (i := 3) (d := some 50) (v := ?vT143) rfl rfl (by kernel_rfl) (by kernel_rfl) (by kernel_rfl) (fun _ _ _ h => h) (Or.inl ⟨by rfl, ?hyT143⟩) (by assumption) ?rstT143
    case hyT143 => (intro w hSw; (try dsimp only at hSw); go_simp; (try with_reducible rfl))
    try simp only [Act.put, List.setIfInBounds_toArray, List.set_cons_zero, List.set_cons_succ]
    refine takeD (i := 4) (d := some 51) (v := ?vT144) rfl rfl (by kernel_rfl) (by kernel_rfl) (by kernel_rfl) (fun _ _ _ h => h) (Or.inl ⟨by rfl, ?hyT144⟩) (by assumption) ?rstT144
    case hyT144 => (intro w hSw; (try dsimp only at hSw); go_simp; (try with_reducible rfl))
    try simp only [Act.put, List.setIfInBounds_toArray, List.set_cons_zero, List.set_cons_succ]
    refine takeD (i := 5) (d := some 52) (v := ?vT145) rfl rfl (by kernel_rfl) (by kernel_rfl) (by kernel_rfl) (fun _ _ _ h => h) (Or.inl ⟨by rfl, ?hyT145⟩) (by assumption) ?rstT145
    case hyT145 => (intro w hSw; have hcv := HV2.out w hSw; clear hSw; go_simp; (try with_reducible rfl))
    try simp only [Act.put, List.setIfInBounds_toArray, List.set_cons_zero, List.set_cons_succ]
    refine takeD (i := 6) (d := some 6) (v := ?vT146) rfl rfl (by kernel_rfl) (by kernel_rfl) (by kernel_rfl) (fun _ _ _ h => h) (Or.inl ⟨by rfl, ?hyT146⟩) (by assumption) ?rstT146
    case hyT146 => (intro w hSw; (try dsimp only at hSw); go_simp; (try with_reducible rfl))
    try simp only [Act.put, List.setIfInBounds_toArray, List.set_cons_zero, List.set_cons_succ]
    refine takeD (i := 7) (d := some 7) (v := ?vT147) rfl rfl (by kernel_rfl) (by kernel_rfl) (by kernel_rfl) (fun _ _ _ h => h) (Or.inl ⟨by rfl, ?hyT147⟩) (by assumption) ?rstT147
    case hyT147 => (intro w hSw; (try dsimp only at hSw); go_simp; (try with_reducible rfl))
    try simp only [Act.put, List.setIfInBounds_toArray, List.set_cons_zero, List.set_cons_succ]
    refine wpAnyH_done (by kernel_rfl) ?_ _
    clear hHeld HV1 HV2 C1 C2
    obtain ⟨cp3, w3, hr3, hR3, hb3, hs3⟩ := back_bytes w2.drew [y, x] (by intro z hz; simp at hz; omega) (by simp)
    have HG := grow_any hR3 x [y] rfl hx (by simp)
    simp only [List.length_cons, List.length_nil, Nat.zero_add, Nat.reduceAdd] at hr3 hR3 HG
    have hb23 : Below w2.heap.size w2 w3 := ((Below.refl _ _).drew).trans hb3
    clear hR3 hs3 hb3
    go_wp2_with fail
    refine HG.mono ?_
    rintro e w4 ⟨v4, rfl, ho4, hb4⟩
    clear HG hr3
    obtain ⟨a4, cap4, hv4⟩ := ho4.shape
    have hv4' : v4 = .slice a4 3 cap4 := hv4
    subst hv4'
    clear hv4
    have hcv4 := conv_bytes (ho4.rw_ layB) (by omega) (by intro z hz; simp at hz; omega)
    have hcat4 := strB_append [1, k] [y, 128 + x, 0]
    obtain ⟨cp5, w5, hr5, hR5, hb5, hs5⟩ := back_bytes w4 [1, k, y, 128 + x, 0] (by intro z hz; simp at hz; omega) (by simp)
    have HD := decode_hello hR5 (fun g e => by cases e; exact hs5) (by intro z hz; simp at hz; omega) 1 (code_one _ _)
    rw [show [1, k, y, 128 + x, 0] = 1 :: k :: [y, 128 + x, 0] from rfl, hello_rev _ k [y, 128 + x, 0] hk 2 101 (rev_grown _ [y] x hx (.inr ⟨y, hy1, hy2, rfl⟩))] at HD
    simp only [List.length_cons, List.length_nil, Nat.zero_add, Nat.reduceAdd] at hr5 HD
    have hb25 : Below w2.heap.size w2 w5 := hb23.trans ((hb4.mono hb23.size).trans (hb5.mono (by have := hb23.size; have := hb4.size; omega)))
    clear hR5 hs5 ho4 hb4 hb5 hb23
    go_wp2_with fail
    refine HD.mono ?_
    rintro e w6 ⟨rfl, hb6⟩
    clear HD hr5 hcv4 hcat4
    unfold zeroV
    go_wp2_with fail
    obtain ⟨w7, ew7⟩ : ∃ W, w6.alloc (.cells #[.int .i64 0, .int .i64 0, .int .i64 0, .int .i64 0, .int .i64 0, .int .i64 0, .int .i64 0, .int .i64 0, .string ⟨#[]⟩, .slice none 0 0, .int .i64 0, .int .i64 0, .bool false] 37) = W := ⟨_, rfl⟩
    have hb27 : Below w2.heap.size w2 w7 := ew7 ▸ (hb25.trans (hb6.mono hb25.size)).alloc (by have := hb25.size; have := hb6.size; omega) _
    clear hb25 hb6
    obtain ⟨hb, hc3, hg⟩ := HK.out
    have hb7 := hb.below hb27
    have hg7 : g < w7.heap.size := by have := hb27.size; omega
    have HV3 : Hid (∀ W : World, (∀ q : Addr, q.block < w7.heap.size → W.cell? q = w7.cell? q) → (convert 39 9 (.slice (some ⟨g, off, none⟩) 1 cap)).run Tryd.prog W = .ok (.string (strB [1])) W) := fun W hW => conv_cells [1] cap (fun j z hj => (hW ⟨g, off + j, none⟩ hg7).trans ((hb7.take 1 (by omega)).byte (by omega) j z hj)) (by intro z hz; simp at hz; omega)
    have HGr : Hid (∀ W : World, Below w7.heap.size w7 W → Calls Tryd.prog 10 #[.slice (some ⟨g, off + 1, none⟩) 1 (cap - 1)] W fun e w' => ∃ v, e = .returned v ∧ OwnF byV 1 5 w' W.heap.size v [128 + k, 0] ∧ Below W.heap.size W w') := fun W hW => grow_any (((hb7.drop 1 (by omega)).take 1 (by omega)).below hW) k [] rfl (by omega) (by omega)
    have zs1 : (strB [1]).size = 1 := strB_size _
    have zs2 : (strB [128 + k, 0]).size = 2 := strB_size _
    have zs3 : (strB [1, 128 + k, 0]).size = 3 := strB_size _
    have zs4 : (strB [y, x]).size = 2 := strB_size _
    have hcatA := strB_append [1] [128 + k, 0]
    have hcatB := strB_append [1, 128 + k, 0] [y, x]
    have HK7 : Hid (Below w2.heap.size w2 w7) := hb27
    clear hb hc3 hg hb7 hg7 hb27
    rw [ew7]
    go_cut [12, 13] (fun v12 v13 W => v12 = .int .i64 1 ∧ v13 = .int .i64 101 ∧ Below w7.heap.size w7 W)
    case first =>
      clear ew7
      refine wp_region_held_drew (S := (fun W => ∀ q : Addr, q.block < w7.heap.size → W.cell? q = w7.cell? q)) (by kernel_rfl) ?hS148 (fun hHeld => ?rest148)
      case hS148 => (intro q hq; rfl)
      have hcur : Below w7.heap.size w7 w7.drew := (Below.refl _ _).drew
      refine takeD (i := 0) (d := some 66) (v := ?vT149) rfl rfl (by kernel_rfl) (by kernel_rfl) (by kernel_rfl) (fun _ _ _ h => h) (Or.inl ⟨by rfl, ?hyT149⟩) (by assumption) ?rstT149
      case hyT149 => (intro w hSw; (try dsimp only at hSw); go_simp; (try with_reducible rfl))
      try simp only [Act.put, List.setIfInBounds_toArray, List.set_cons_zero, List.set_cons_succ]
      refine takeD (i := 1) (d := some 67) (v := ?vT150) rfl rfl (by kernel_rfl) (by kernel_rfl) (by kernel_rfl) (fun _ _ _ h => h) (Or.inl ⟨by rfl, ?hyT150⟩) (by assumption) ?rstT150
      case hyT150 => (intro w hSw; (try dsimp only at hSw); go_simp; (try with_reducible rfl))
      try simp only [Act.put, List.setIfInBounds_toArray, List.set_cons_zero, List.set_cons_succ]
      refine takeD (i := 2) (d := some 68) (v := ?vT151) rfl rfl (by kernel_rfl) (by kernel_rfl) (by kernel_rfl) (fun _ _ _ h => h) (Or.inl ⟨by rfl, ?hyT151⟩) (by assumption) ?rstT151
      case hyT151 => (intro w hSw; have hcv := HV3.out w hSw; clear hSw; go_simp; (try with_reducible rfl))
      try simp only [Act.put, List.setIfInBounds_toArray, List.set_cons_zero, List.set_cons_succ]
      refine takeD (i := 3) (d := some 69) (v := ?vT152) rfl rfl (by kernel_rfl) (by kernel_rfl) (by kernel_rfl) (fun _ _ _ h => h) (Or.inl ⟨by rfl, ?hyT152⟩) (by assumption) ?rstT152
      case hyT152 => (intro w hSw; (try dsimp only at hSw); go_simp; (try with_reducible rfl))
      try simp only [Act.put, List.setIfInBounds_toArray, List.set_cons_zero, List.set_cons_succ]
      refine takeD (i := 4) (d := some 70) (v := ?vT153) rfl rfl (by kernel_rfl) (by kernel_rfl) (by kernel_rfl) (fun _ _ _ h => h) (Or.inl ⟨by rfl, ?hyT153⟩) (by assumption) ?rstT153
      case hyT153 => (intro w hSw; (try dsimp only at hSw); go_simp; (try with_reducible rfl))
      try simp only [Act.put, List.setIfInBounds_toArray, List.set_cons_zero, List.set_cons_succ]
      refine takeD (i := 8) (d := some 74) (v := ?vT154) rfl rfl (by kernel_rfl) (by kernel_rfl) (by kernel_rfl) (fun _ _ _ h => h) (Or.inl ⟨by rfl, ?hyT154⟩) (by assumption) ?rstT154
      case hyT154 => (intro w hSw; (try dsimp only at hSw); go_simp; (try with_reducible rfl))
      try simp only [Act.put, List.setIfInBounds_toArray, List.set_cons_zero, List.set_cons_succ]
      refine wpAnyH_ready (rs := [5, 16]) (by kernel_rfl) (by simp) (AllReadyH.cons rfl (fun K hK => ?bA155) (AllReadyH.cons rfl (fun K hK => ?bB155) AllReadyH.nil))
      case bA155 =>
        go_simp
        refine (HGr.out _ hcur).mono ?_
        rintro e2 wA ⟨vA, rfl, hoA, hbA⟩
        obtain ⟨aA, capA, hvA⟩ := hoA.shape
        have hvA' : vA = .slice aA 2 capA := hvA
        subst hvA'
        clear hvA
        have hcur2 : Below w7.heap.size w7 wA := hcur.trans (hbA.mono hcur.size)
        clear hcur
        have hcur := hcur2
        clear hcur2
        have hRA := hoA.rw_ layB
        clear hoA hbA
        clear hHeld
        refine hK.out _ _ ?hS156 (fun hHeld => ?rest156)
        case hS156 => (intro q hq; first | exact hcur.cell hq | exact hcur.drew.cell hq)
        clear hK K
        try simp only [Act.put, List.setIfInBounds_toArray, List.set_cons_zero, List.set_cons_succ]
        refine wpAnyH_ready (rs := [6, 16]) (by kernel_rfl) (by simp) (AllReadyH.cons rfl (fun K hK => ?bA163) (AllReadyH.cons rfl (fun K hK => ?bB163) AllReadyH.nil))
        case bA163 =>
          have hcvB := conv_bytes hRA (by omega) (by intro z hz; simp at hz; omega)
          go_simp
          clear hcvB
          clear hHeld
          refine hK.out _ _ ?hS164 (fun hHeld => ?rest164)
          case hS164 => (intro q hq; first | exact hcur.cell hq | exact hcur.drew.cell hq)
          clear hK K
          try simp only [Act.put, List.setIfInBounds_toArray, List.set_cons_zero, List.set_cons_succ]
          refine takeD (i := 7) (d := some 73) (v := ?vT165) rfl rfl (by kernel_rfl) (by kernel_rfl) (by kernel_rfl) (fun _ _ _ h => h) (Or.inl ⟨by rfl, ?hyT165⟩) (by assumption) ?rstT165
          case hyT165 => (intro w hSw; (try dsimp only at hSw); go_simp; (try with_reducible rfl))
          try simp only [Act.put, List.setIfInBounds_toArray, List.set_cons_zero, List.set_cons_succ]
          refine takeD (i := 9) (d := some 75) (v := ?vT166) rfl rfl (by kernel_rfl) (by kernel_rfl) (by kernel_rfl) (fun _ _ _ h => h) (Or.inl ⟨by rfl, ?hyT166⟩) (by assumption) ?rstT166
          case hyT166 => (intro w hSw; (try dsimp only at hSw); go_simp; (try with_reducible rfl))
          try simp only [Act.put, List.setIfInBounds_toArray, List.set_cons_zero, List.set_cons_succ]
          refine wpAnyH_ready (rs := [10, 16]) (by kernel_rfl) (by simp) (AllReadyH.cons rfl (fun K hK => ?bA171) (AllReadyH.cons rfl (fun K hK => ?bB171) AllReadyH.nil))
          case bA171 =>
            obtain ⟨cpC, wC, hrC, hRC, hbC, hsC⟩ := back_bytes wA [1, 128 + k, 0, y, x] (by intro z hz; simp at hz; omega) (by simp)
            simp only [List.length_cons, List.length_nil, Nat.zero_add, Nat.reduceAdd] at hrC
            go_simp
            clear hrC
            have hcur2 : Below w7.heap.size w7 wC := hcur.trans (hbC.mono hcur.size)
            clear hcur
            have hcur := hcur2
            clear hcur2
            clear hbC
            clear hHeld
            refine hK.out _ _ ?hS172 (fun hHeld => ?rest172)
            case hS172 => (intro q hq; first | exact hcur.cell hq | exact hcur.drew.cell hq)
            clear hK K
            try simp only [Act.put, List.setIfInBounds_toArray, List.set_cons_zero, List.set_cons_succ]
            refine wpAnyH_ready (rs := [11, 16]) (by kernel_rfl) (by simp) (AllReadyH.cons rfl (fun K hK => ?bA179) (AllReadyH.cons rfl (fun K hK => ?bB179) AllReadyH.nil))
            case bA179 =>
              have HD2 := decode_hello hRC (fun g e => by cases e; exact hsC) (by intro z hz; simp at hz; omega) 1 (code_one _ _)
              rw [show [1, 128 + k, 0, y, x] = 1 :: (128 + k) :: 0 :: [y, x] from rfl, hello_client _ _ (numP_grown1 k _ (by omega))] at HD2
              simp only [List.length_cons, List.length_nil, Nat.zero_add, Nat.reduceAdd] at HD2
              go_simp
              refine HD2.mono ?_
              rintro e2 wD ⟨rfl, hbD⟩
              clear HD2
              unfold zeroV
              have hcur2 : Below w7.heap.size w7 wD := hcur.trans (hbD.mono hcur.size)
              clear hcur
              have hcur := hcur2
              clear hcur2
              clear hbD
              clear hHeld
              refine hK.out _ _ ?hS180 (fun hHeld => ?rest180)
              case hS180 => (intro q hq; first | exact hcur.cell hq | exact hcur.drew.cell hq)
              clear hK K
              try simp only [Act.put, List.setIfInBounds_toArray, List.set_cons_zero, List.set_cons_succ]
              refine takeD (i := 12) (d := some 65) (v := ?vT183) rfl rfl (by kernel_rfl) (by kernel_rfl) (by kernel_rfl) (fun _ _ _ h => h) (Or.inl ⟨by rfl, ?hyT183⟩) (by assumption) ?rstT183
              case hyT183 => (intro w hSw; (try dsimp only at hSw); go_simp; (try with_reducible rfl))
              try simp only [Act.put, List.setIfInBounds_toArray, List.set_cons_zero, List.set_cons_succ]
              refine takeD (i := 13) (d := some 78) (v := ?vT184) rfl rfl (by kernel_rfl) (by kernel_rfl) (by kernel_rfl) (fun _ _ _ h => h) (Or.inl ⟨by rfl, ?hyT184⟩) (by assumption) ?rstT184
              case hyT184 => (intro w hSw; (try dsimp only at hSw); go_simp; (try with_reducible rfl))
              try simp only [Act.put, List.setIfInBounds_toArray, List.set_cons_zero, List.set_cons_succ]
              refine takeD (i := 14) (d := some 79) (v := ?vT185) rfl rfl (by kernel_rfl) (by kernel_rfl) (by kernel_rfl) (fun _ _ _ h => h) (Or.inl ⟨by rfl, ?hyT185⟩) (by assumption) ?rstT185
              case hyT185 => (intro w hSw; (try dsimp only at hSw); go_simp; (try with_reducible rfl))
              try simp only [Act.put, List.setIfInBounds_toArray, List.set_cons_zero, List.set_cons_succ]
              refine takeD (i := 15) (d := some 80) (v := ?vT186) rfl rfl (by kernel_rfl) (by kernel_rfl) (by kernel_rfl) (fun _ _ _ h => h) (Or.inl ⟨by rfl, ?hyT186⟩) (by assumption) ?rstT186
              case hyT186 => (intro w hSw; (try dsimp only at hSw); go_simp; (try with_reducible rfl))
              try simp only [Act.put, List.setIfInBounds_toArray, List.set_cons_zero, List.set_cons_succ]
              refine wpAnyH_ready (rs := [16]) (by kernel_rfl) (by simp) ?_
              refine AllReadyH.cons rfl (fun K hK => ?_) AllReadyH.nil
              have hcu := hcur.size
              obtain ⟨wE, ewE⟩ : ∃ W, wD.alloc (.cells #[.int .i64 0, .int .i64 0, .int .i64 0, .int .i64 0, .int .i64 0, .int .i64 0, .int .i64 0, .int .i64 0, .string ⟨#[]⟩, .slice none 0 0, .int .i64 0, .int .i64 0, .bool false] 37) = W := ⟨_, rfl⟩
              have hbE : Below wD.heap.size wD wE := ewE ▸ (Below.refl _ _).alloc (Nat.le_refl _) _
              go_simp
              have hcur2 : Below w7.heap.size w7 wE := hcur.trans (hbE.mono hcur.size)
              clear hcur
              have hcur := hcur2
              clear hcur2
              have hE : wE.heap[wD.heap.size]? = some (.cells #[.int .i64 0, .int .i64 0, .int .i64 0, .int .i64 0, .int .i64 0, .int .i64 0, .int .i64 0, .int .i64 0, .string ⟨#[]⟩, .slice none 0 0, .int .i64 0, .int .i64 0, .bool false] 37) := ewE ▸ heap_alloc_new _ _
              have hEw : w7.heap.size ≤ wD.heap.size := hcu
              clear hbE ewE
              clear hHeld
              refine hK.out _ _ ?hS187 (fun hHeld => ?rest187)
              case hS187 => (intro q hq; first | exact hcur.cell hq | exact hcur.drew.cell hq)
              clear hK K
              try simp only [Act.put, List.setIfInBounds_toArray, List.set_cons_zero, List.set_cons_succ]
              obtain ⟨z0, z1, z2, z3, z4, z5, z6, z7, z8, z9, z10, z11, z12⟩ := box13 hE
              have FZ : ∀ i, wE.frozen? ⟨wD.heap.size, i, none⟩ = false := fun i => Lib.frozen_of_heap hE i
              have hst := set13 hE (.int .i64 0) (.int .i64 0) (.int .i64 0) (.int .i64 0) (.int .i64 0) (.int .i64 0) (.int .i64 0) (.int .i64 0) (.string ⟨#[]⟩) (.slice none 0 0) (.int .i64 0) (.int .i64 0) (.bool false)
              obtain ⟨wF, ewF⟩ : ∃ W, (((((((((((((wE.setCell ⟨wD.heap.size, 0, none⟩ (.int .i64 0)).setCell ⟨wD.heap.size, 1, none⟩ (.int .i64 0)).setCell ⟨wD.heap.size, 2, none⟩ (.int .i64 0)).setCell ⟨wD.heap.size, 3, none⟩ (.int .i64 0)).setCell ⟨wD.heap.size, 4, none⟩ (.int .i64 0)).setCell ⟨wD.heap.size, 5, none⟩ (.int .i64 0)).setCell ⟨wD.heap.size, 6, none⟩ (.int .i64 0)).setCell ⟨wD.heap.size, 7, none⟩ (.int .i64 0)).setCell ⟨wD.heap.size, 8, none⟩ (.string ⟨#[]⟩)).setCell ⟨wD.heap.size, 9, none⟩ (.slice none 0 0)).setCell ⟨wD.heap.size, 10, none⟩ (.int .i64 0)).setCell ⟨wD.heap.size, 11, none⟩ (.int .i64 0)).setCell ⟨wD.heap.size, 12, none⟩ (.bool false)) = W := ⟨_, rfl⟩
              rw [ewF] at hst
              have hcurF : Below w7.heap.size w7 wF := hcur.trans (hst.2.below (B := w7.heap.size) (fun g e => by omega) hcur.size)
              refine wpAnyH_ready (rs := [17]) (by kernel_rfl) (by simp) ?_
              refine AllReadyH.cons rfl (fun K hK => ?_) AllReadyH.nil
              go_simp
              clear hcur
              have hcur := hcurF
              clear hHeld
              refine hK.out _ _ ?hS188 (fun hHeld => ?rest188)
              case hS188 => (intro q hq; first | exact hcur.cell hq | exact hcur.drew.cell hq)
              clear hK K
              try simp only [Act.put, List.setIfInBounds_toArray, List.set_cons_zero, List.set_cons_succ]
              refine takeD (i := 18) (d := some 12) (v := ?vT189) rfl rfl (by kernel_rfl) (by kernel_rfl) (by kernel_rfl) (fun _ _ _ h => h) (Or.inl ⟨by rfl, ?hyT189⟩) (by assumption) ?rstT189
              case hyT189 => (intro w hSw; (try dsimp only at hSw); go_simp; (try with_reducible rfl))
              try simp only [Act.put, List.setIfInBounds_toArray, List.set_cons_zero, List.set_cons_succ]
              refine takeD (i := 19) (d := some 13) (v := ?vT190) rfl rfl (by kernel_rfl) (by kernel_rfl) (by kernel_rfl) (fun _ _ _ h => h) (Or.inl ⟨by rfl, ?hyT190⟩) (by assumption) ?rstT190
              case hyT190 => (intro w hSw; (try dsimp only at hSw); go_simp; (try with_reducible rfl))
              try simp only [Act.put, List.setIfInBounds_toArray, List.set_cons_zero, List.set_cons_succ]
              refine wpAnyH_done (by kernel_rfl) ?_ _
              clear hHeld
              go_wp2_with fail
              go_meet
              case rel => exact ⟨rfl, rfl, by first | exact hcurF | exact hcurF.drew⟩
            case bB179 =>
              have hcu := hcur.size
              obtain ⟨wE, ewE⟩ : ∃ W, wC.alloc (.cells #[.int .i64 0, .int .i64 0, .int .i64 0, .int .i64 0, .int .i64 0, .int .i64 0, .int .i64 0, .int .i64 0, .string ⟨#[]⟩, .slice none 0 0, .int .i64 0, .int .i64 0, .bool false] 37) = W := ⟨_, rfl⟩
              have hbE : Below wC.heap.size wC wE := ewE ▸ (Below.refl _ _).alloc (Nat.le_refl _) _
              go_simp
              have hRC2 := hRC.below hbE
              have hsC2 := Nat.lt_of_lt_of_le hsC hbE.size
              clear hRC hsC
              have hRC := hRC2
              have hsC := hsC2
              clear hRC2 hsC2
              have hcur2 : Below w7.heap.size w7 wE := hcur.trans (hbE.mono hcur.size)
              clear hcur
              have hcur := hcur2
              clear hcur2
              have hE : wE.heap[wC.heap.size]? = some (.cells #[.int .i64 0, .int .i64 0, .int .i64 0, .int .i64 0, .int .i64 0, .int .i64 0, .int .i64 0, .int .i64 0, .string ⟨#[]⟩, .slice none 0 0, .int .i64 0, .int .i64 0, .bool false] 37) := ewE ▸ heap_alloc_new _ _
              have hEw : w7.heap.size ≤ wC.heap.size := hcu
              clear hbE ewE
              clear hHeld
              refine hK.out _ _ ?hS191 (fun hHeld => ?rest191)
              case hS191 => (intro q hq; first | exact hcur.cell hq | exact hcur.drew.cell hq)
              clear hK K
              try simp only [Act.put, List.setIfInBounds_toArray, List.set_cons_zero, List.set_cons_succ]
              refine wpAnyH_ready (rs := [11]) (by kernel_rfl) (by simp) ?_
              refine AllReadyH.cons rfl (fun K hK => ?_) AllReadyH.nil
              have HD2 := decode_hello hRC (fun g e => by cases e; exact hsC) (by intro z hz; simp at hz; omega) 1 (code_one _ _)
              rw [show [1, 128 + k, 0, y, x] = 1 :: (128 + k) :: 0 :: [y, x] from rfl, hello_client _ _ (numP_grown1 k _ (by omega))] at HD2
              simp only [List.length_cons, List.length_nil, Nat.zero_add, Nat.reduceAdd] at HD2
              go_simp
              refine HD2.mono ?_
              rintro e2 wD ⟨rfl, hbD⟩
              clear HD2
              unfold zeroV
              have hE2 := (hbD.block _ (Array.getElem?_eq_some_iff.1 hE).1).trans hE
              clear hE
              have hE := hE2
              clear hE2
              have hcur2 : Below w7.heap.size w7 wD := hcur.trans (hbD.mono hcur.size)
              clear hcur
              have hcur := hcur2
              clear hcur2
              clear hbD
              clear hHeld
              refine hK.out _ _ ?hS192 (fun hHeld => ?rest192)
              case hS192 => (intro q hq; first | exact hcur.cell hq | exact hcur.drew.cell hq)
              clear hK K
              try simp only [Act.put, List.setIfInBounds_toArray, List.set_cons_zero, List.set_cons_succ]
              refine takeD (i := 12) (d := some 65) (v := ?vT195) rfl rfl (by kernel_rfl) (by kernel_rfl) (by kernel_rfl) (fun _ _ _ h => h) (Or.inl ⟨by rfl, ?hyT195⟩) (by assumption) ?rstT195
              case hyT195 => (intro w hSw; (try dsimp only at hSw); go_simp; (try with_reducible rfl))
              try simp only [Act.put, List.setIfInBounds_toArray, List.set_cons_zero, List.set_cons_succ]
              refine takeD (i := 13) (d := some 78) (v := ?vT196) rfl rfl (by kernel_rfl) (by kernel_rfl) (by kernel_rfl) (fun _ _ _ h => h) (Or.inl ⟨by rfl, ?hyT196⟩) (by assumption) ?rstT196
              case hyT196 => (intro w hSw; (try dsimp only at hSw); go_simp; (try with_reducible rfl))
              try simp only [Act.put, List.setIfInBounds_toArray, List.set_cons_zero, List.set_cons_succ]
              refine takeD (i := 14) (d := some 79) (v := ?vT197) rfl rfl (by kernel_rfl) (by kernel_rfl) (by kernel_rfl) (fun _ _ _ h => h) (Or.inl ⟨by rfl, ?hyT197⟩) (by assumption) ?rstT197
              case hyT197 => (intro w hSw; (try dsimp only at hSw); go_simp; (try with_reducible rfl))
              try simp only [Act.put, List.setIfInBounds_toArray, List.set_cons_zero, List.set_cons_succ]
              refine takeD (i := 15) (d := some 80) (v := ?vT198) rfl rfl (by kernel_rfl) (by kernel_rfl) (by kernel_rfl) (fun _ _ _ h => h) (Or.inl ⟨by rfl, ?hyT198⟩) (by assumption) ?rstT198
              case hyT198 => (intro w hSw; (try dsimp only at hSw); go_simp; (try with_reducible rfl))
              try simp only [Act.put, List.setIfInBounds_toArray, List.set_cons_zero, List.set_cons_succ]
              obtain ⟨z0, z1, z2, z3, z4, z5, z6, z7, z8, z9, z10, z11, z12⟩ := box13 hE
              have FZ : ∀ i, wD.frozen? ⟨wC.heap.size, i, none⟩ = false := fun i => Lib.frozen_of_heap hE i
              have hst := set13 hE (.int .i64 0) (.int .i64 0) (.int .i64 0) (.int .i64 0) (.int .i64 0) (.int .i64 0) (.int .i64 0) (.int .i64 0) (.string ⟨#[]⟩) (.slice none 0 0) (.int .i64 0) (.int .i64 0) (.bool false)
              obtain ⟨wF, ewF⟩ : ∃ W, (((((((((((((wD.setCell ⟨wC.heap.size, 0, none⟩ (.int .i64 0)).setCell ⟨wC.heap.size, 1, none⟩ (.int .i64 0)).setCell ⟨wC.heap.size, 2, none⟩ (.int .i64 0)).setCell ⟨wC.heap.size, 3, none⟩ (.int .i64 0)).setCell ⟨wC.heap.size, 4, none⟩ (.int .i64 0)).setCell ⟨wC.heap.size, 5, none⟩ (.int .i64 0)).setCell ⟨wC.heap.size, 6, none⟩ (.int .i64 0)).setCell ⟨wC.heap.size, 7, none⟩ (.int .i64 0)).setCell ⟨wC.heap.size, 8, none⟩ (.string ⟨#[]⟩)).setCell ⟨wC.heap.size, 9, none⟩ (.slice none 0 0)).setCell ⟨wC.heap.size, 10, none⟩ (.int .i64 0)).setCell ⟨wC.heap.size, 11, none⟩ (.int .i64 0)).setCell ⟨wC.heap.size, 12, none⟩ (.bool false)) = W := ⟨_, rfl⟩
              rw [ewF] at hst
              have hcurF : Below w7.heap.size w7 wF := hcur.trans (hst.2.below (B := w7.heap.size) (fun g e => by omega) hcur.size)
              refine wpAnyH_ready (rs := [17]) (by kernel_rfl) (by simp) ?_
              refine AllReadyH.cons rfl (fun K hK => ?_) AllReadyH.nil
              go_simp
              clear hcur
              have hcur := hcurF
              clear hHeld
              refine hK.out _ _ ?hS199 (fun hHeld => ?rest199)
              case hS199 => (intro q hq; first | exact hcur.cell hq | exact hcur.drew.cell hq)
              clear hK K
              try simp only [Act.put, List.setIfInBounds_toArray, List.set_cons_zero, List.set_cons_succ]
              refine takeD (i := 18) (d := some 12) (v := ?vT200) rfl rfl (by kernel_rfl) (by kernel_rfl) (by kernel_rfl) (fun _ _ _ h => h) (Or.inl ⟨by rfl, ?hyT200⟩) (by assumption) ?rstT200
              case hyT200 => (intro w hSw; (try dsimp only at hSw); go_simp; (try with_reducible rfl))
              try simp only [Act.put, List.setIfInBounds_toArray, List.set_cons_zero, List.set_cons_succ]
              refine takeD (i := 19) (d := some 13) (v := ?vT201) rfl rfl (by kernel_rfl) (by kernel_rfl) (by kernel_rfl) (fun _ _ _ h => h) (Or.inl ⟨by rfl, ?hyT201⟩) (by assumption) ?rstT201
              case hyT201 => (intro w hSw; (try dsimp only at hSw); go_simp; (try with_reducible rfl))
              try simp only [Act.put, List.setIfInBounds_toArray, List.set_cons_zero, List.set_cons_succ]
              refine wpAnyH_done (by kernel_rfl) ?_ _
              clear hHeld
              go_wp2_with fail
              go_meet
              case rel => exact ⟨rfl, rfl, by first | exact hcurF | exact hcurF.drew⟩
          case bB171 =>
            have hcu := hcur.size
            obtain ⟨wE, ewE⟩ : ∃ W, wA.alloc (.cells #[.int .i64 0, .int .i64 0, .int .i64 0, .int .i64 0, .int .i64 0, .int .i64 0, .int .i64 0, .int .i64 0, .string ⟨#[]⟩, .slice none 0 0, .int .i64 0, .int .i64 0, .bool false] 37) = W := ⟨_, rfl⟩
            have hbE : Below wA.heap.size wA wE := ewE ▸ (Below.refl _ _).alloc (Nat.le_refl _) _
            go_simp
            have hcur2 : Below w7.heap.size w7 wE := hcur.trans (hbE.mono hcur.size)
            clear hcur
            have hcur := hcur2
            clear hcur2
            have hE : wE.heap[wA.heap.size]? = some (.cells #[.int .i64 0, .int .i64 0, .int .i64 0, .int .i64 0, .int .i64 0, .int .i64 0, .int .i64 0, .int .i64 0, .string ⟨#[]⟩, .slice none 0 0, .int .i64 0, .int .i64 0, .bool false] 37) := ewE ▸ heap_alloc_new _ _
            have hEw : w7.heap.size ≤ wA.heap.size := hcu
            clear hbE ewE
            clear hHeld
            refine hK.out _ _ ?hS202 (fun hHeld => ?rest202)
            case hS202 => (intro q hq; first | exact hcur.cell hq | exact hcur.drew.cell hq)
            clear hK K
            try simp only [Act.put, List.setIfInBounds_toArray, List.set_cons_zero, List.set_cons_succ]
            refine wpAnyH_ready (rs := [10]) (by kernel_rfl) (by simp) ?_
            refine AllReadyH.cons rfl (fun K hK => ?_) AllReadyH.nil
            obtain ⟨cpC, wC, hrC, hRC, hbC, hsC⟩ := back_bytes wE [1, 128 + k, 0, y, x] (by intro z hz; simp at hz; omega) (by simp)
            simp only [List.length_cons, List.length_nil, Nat.zero_add, Nat.reduceAdd] at hrC
            go_simp
            clear hrC
            have hE2 := (hbC.block _ (Array.getElem?_eq_some_iff.1 hE).1).trans hE
            clear hE
            have hE := hE2
            clear hE2
            have hcur2 : Below w7.heap.size w7 wC := hcur.trans (hbC.mono hcur.size)
            clear hcur
            have hcur := hcur2
            clear hcur2
            clear hbC
            clear hHeld
            refine hK.out _ _ ?hS203 (fun hHeld => ?rest203)
            case hS203 => (intro q hq; first | exact hcur.cell hq | exact hcur.drew.cell hq)
            clear hK K
            try simp only [Act.put, List.setIfInBounds_toArray, List.set_cons_zero, List.set_cons_succ]
            refine wpAnyH_ready (rs := [11]) (by kernel_rfl) (by simp) ?_
            refine AllReadyH.cons rfl (fun K hK => ?_) AllReadyH.nil
            have HD2 := decode_hello hRC (fun g e => by cases e; exact hsC) (by intro z hz; simp at hz; omega) 1 (code_one _ _)
            rw [show [1, 128 + k, 0, y, x] = 1 :: (128 + k) :: 0 :: [y, x] from rfl, hello_client _ _ (numP_grown1 k _ (by omega))] at HD2
            simp only [List.length_cons, List.length_nil, Nat.zero_add, Nat.reduceAdd] at HD2
            go_simp
            refine HD2.mono ?_
            rintro e2 wD ⟨rfl, hbD⟩
            clear HD2
            unfold zeroV
            have hE2 := (hbD.block _ (Array.getElem?_eq_some_iff.1 hE).1).trans hE
            clear hE
            have hE := hE2
            clear hE2
            have hcur2 : Below w7.heap.size w7 wD := hcur.trans (hbD.mono hcur.size)
            clear hcur
            have hcur := hcur2
            clear hcur2
            clear hbD
            clear hHeld
            refine hK.out _ _ ?hS210 (fun hHeld => ?rest210)
            case hS210 => (intro q hq; first | exact hcur.cell hq | exact hcur.drew.cell hq)
            clear hK K
            try simp only [Act.put, List.setIfInBounds_toArray, List.set_cons_zero, List.set_cons_succ]
            refine takeD (i := 12) (d := some 65) (v := ?vT213) rfl rfl (by kernel_rfl) (by kernel_rfl) (by kernel_rfl) (fun _ _ _ h => h) (Or.inl ⟨by rfl, ?hyT213⟩) (by assumption) ?rstT213
            case hyT213 => (intro w hSw; (try dsimp only at hSw); go_simp; (try with_reducible rfl))
            try simp only [Act.put, List.setIfInBounds_toArray, List.set_cons_zero, List.set_cons_succ]
            refine takeD (i := 13) (d := some 78) (v := ?vT214) rfl rfl (by kernel_rfl) (by kernel_rfl) (by kernel_rfl) (fun _ _ _ h => h) (Or.inl ⟨by rfl, ?hyT214⟩) (by assumption) ?rstT214
            case hyT214 => (intro w hSw; (try dsimp only at hSw); go_simp; (try with_reducible rfl))
            try simp only [Act.put, List.setIfInBounds_toArray, List.set_cons_zero, List.set_cons_succ]
            refine takeD (i := 14) (d := some 79) (v := ?vT215) rfl rfl (by kernel_rfl) (by kernel_rfl) (by kernel_rfl) (fun _ _ _ h => h) (Or.inl ⟨by rfl, ?hyT215⟩) (by assumption) ?rstT215
            case hyT215 => (intro w hSw; (try dsimp only at hSw); go_simp; (try with_reducible rfl))
            try simp only [Act.put, List.setIfInBounds_toArray, List.set_cons_zero, List.set_cons_succ]
            refine takeD (i := 15) (d := some 80) (v := ?vT216) rfl rfl (by kernel_rfl) (by kernel_rfl) (by kernel_rfl) (fun _ _ _ h => h) (Or.inl ⟨by rfl, ?hyT216⟩) (by assumption) ?rstT216
            case hyT216 => (intro w hSw; (try dsimp only at hSw); go_simp; (try with_reducible rfl))
            try simp only [Act.put, List.setIfInBounds_toArray, List.set_cons_zero, List.set_cons_succ]
            obtain ⟨z0, z1, z2, z3, z4, z5, z6, z7, z8, z9, z10, z11, z12⟩ := box13 hE
            have FZ : ∀ i, wD.frozen? ⟨wA.heap.size, i, none⟩ = false := fun i => Lib.frozen_of_heap hE i
            have hst := set13 hE (.int .i64 0) (.int .i64 0) (.int .i64 0) (.int .i64 0) (.int .i64 0) (.int .i64 0) (.int .i64 0) (.int .i64 0) (.string ⟨#[]⟩) (.slice none 0 0) (.int .i64 0) (.int .i64 0) (.bool false)
            obtain ⟨wF, ewF⟩ : ∃ W, (((((((((((((wD.setCell ⟨wA.heap.size, 0, none⟩ (.int .i64 0)).setCell ⟨wA.heap.size, 1, none⟩ (.int .i64 0)).setCell ⟨wA.heap.size, 2, none⟩ (.int .i64 0)).setCell ⟨wA.heap.size, 3, none⟩ (.int .i64 0)).setCell ⟨wA.heap.size, 4, none⟩ (.int .i64 0)).setCell ⟨wA.heap.size, 5, none⟩ (.int .i64 0)).setCell ⟨wA.heap.size, 6, none⟩ (.int .i64 0)).setCell ⟨wA.heap.size, 7, none⟩ (.int .i64 0)).setCell ⟨wA.heap.size, 8, none⟩ (.string ⟨#[]⟩)).setCell ⟨wA.heap.size, 9, none⟩ (.slice none 0 0)).setCell ⟨wA.heap.size, 10, none⟩ (.int .i64 0)).setCell ⟨wA.heap.size, 11, none⟩ (.int .i64 0)).setCell ⟨wA.heap.size, 12, none⟩ (.bool false)) = W := ⟨_, rfl⟩
            rw [ewF] at hst
            have hcurF : Below w7.heap.size w7 wF := hcur.trans (hst.2.below (B := w7.heap.size) (fun g e => by omega) hcur.size)
            refine wpAnyH_ready (rs := [17]) (by kernel_rfl) (by simp) ?_
            refine AllReadyH.cons rfl (fun K hK => ?_) AllReadyH.nil
            go_simp
            clear hcur
            have hcur := hcurF
            clear hHeld
            refine hK.out _ _ ?hS217 (fun hHeld => ?rest217)
            case hS217 => (intro q hq; first | exact hcur.cell hq | exact hcur.drew.cell hq)
            clear hK K
            try simp only [Act.put, List.setIfInBounds_toArray, List.set_cons_zero, List.set_cons_succ]
            refine takeD (i := 18) (d := some 12) (v := ?vT218) rfl rfl (by kernel_rfl) (by kernel_rfl) (by kernel_rfl) (fun _ _ _ h => h) (Or.inl ⟨by rfl, ?hyT218⟩) (by assumption) ?rstT218
            case hyT218 => (intro w hSw; (try dsimp only at hSw); go_simp; (try with_reducible rfl))
            try simp only [Act.put, List.setIfInBounds_toArray, List.set_cons_zero, List.set_cons_succ]
            refine takeD (i := 19) (d := some 13) (v := ?vT219) rfl rfl (by kernel_rfl) (by kernel_rfl) (by kernel_rfl) (fun _ _ _ h => h) (Or.inl ⟨by rfl, ?hyT219⟩) (by assumption) ?rstT219
            case hyT219 => (intro w hSw; (try dsimp only at hSw); go_simp; (try with_reducible rfl))
            try simp only [Act.put, List.setIfInBounds_toArray, List.set_cons_zero, List.set_cons_succ]
            refine wpAnyH_done (by kernel_rfl) ?_ _
            clear hHeld
            go_wp2_with fail
            go_meet
            case rel => exact ⟨rfl, rfl, by first | exact hcurF | exact hcurF.drew⟩
        case bB163 =>
          have hcu := hcur.size
          obtain ⟨wE, ewE⟩ : ∃ W, wA.alloc (.cells #[.int .i64 0, .int .i64 0, .int .i64 0, .int .i64 0, .int .i64 0, .int .i64 0, .int .i64 0, .int .i64 0, .string ⟨#[]⟩, .slice none 0 0, .int .i64 0, .int .i64 0, .bool false] 37) = W := ⟨_, rfl⟩
          have hbE : Below wA.heap.size wA wE := ewE ▸ (Below.refl _ _).alloc (Nat.le_refl _) _
          go_simp
          have hRA2 := hRA.below hbE
          clear hRA
          have hRA := hRA2
          clear hRA2
          have hcur2 : Below w7.heap.size w7 wE := hcur.trans (hbE.mono hcur.size)
          clear hcur
          have hcur := hcur2
          clear hcur2
          have hE : wE.heap[wA.heap.size]? = some (.cells #[.int .i64 0, .int .i64 0, .int .i64 0, .int .i64 0, .int .i64 0, .int .i64 0, .int .i64 0, .int .i64 0, .string ⟨#[]⟩, .slice none 0 0, .int .i64 0, .int .i64 0, .bool false] 37) := ewE ▸ heap_alloc_new _ _
          have hEw : w7.heap.size ≤ wA.heap.size := hcu
          clear hbE ewE
          clear hHeld
          refine hK.out _ _ ?hS220 (fun hHeld => ?rest220)
          case hS220 => (intro q hq; first | exact hcur.cell hq | exact hcur.drew.cell hq)
          clear hK K
          try simp only [Act.put, List.setIfInBounds_toArray, List.set_cons_zero, List.set_cons_succ]
          refine wpAnyH_ready (rs := [6]) (by kernel_rfl) (by simp) ?_
          refine AllReadyH.cons rfl (fun K hK => ?_) AllReadyH.nil
          have hcvB := conv_bytes hRA (by omega) (by intro z hz; simp at hz; omega)
          go_simp
          clear hcvB
          clear hHeld
          refine hK.out _ _ ?hS221 (fun hHeld => ?rest221)
          case hS221 => (intro q hq; first | exact hcur.cell hq | exact hcur.drew.cell hq)
          clear hK K
          try simp only [Act.put, List.setIfInBounds_toArray, List.set_cons_zero, List.set_cons_succ]
          refine takeD (i := 7) (d := some 73) (v := ?vT222) rfl rfl (by kernel_rfl) (by kernel_rfl) (by kernel_rfl) (fun _ _ _ h => h) (Or.inl ⟨by rfl, ?hyT222⟩) (by assumption) ?rstT222
          case hyT222 => (intro w hSw; (try dsimp only at hSw); go_simp; (try with_reducible rfl))
          try simp only [Act.put, List.setIfInBounds_toArray, List.set_cons_zero, List.set_cons_succ]
          refine takeD (i := 9) (d := some 75) (v := ?vT223) rfl rfl (by kernel_rfl) (by kernel_rfl) (by kernel_rfl) (fun _ _ _ h => h) (Or.inl ⟨by rfl, ?hyT223⟩) (by assumption) ?rstT223
          case hyT223 => (intro w hSw; (try dsimp only at hSw); go_simp; (try with_reducible rfl))
          try simp only [Act.put, List.setIfInBounds_toArray, List.set_cons_zero, List.set_cons_succ]
          refine wpAnyH_ready (rs := [10]) (by kernel_rfl) (by simp) ?_
          refine AllReadyH.cons rfl (fun K hK => ?_) AllReadyH.nil
          obtain ⟨cpC, wC, hrC, hRC, hbC, hsC⟩ := back_bytes wE [1, 128 + k, 0, y, x] (by intro z hz; simp at hz; omega) (by simp)
          simp only [List.length_cons, List.length_nil, Nat.zero_add, Nat.reduceAdd] at hrC
          go_simp
          clear hrC
          have hE2 := (hbC.block _ (Array.getElem?_eq_some_iff.1 hE).1).trans hE
          clear hE
          have hE := hE2
          clear hE2
          have hcur2 : Below w7.heap.size w7 wC := hcur.trans (hbC.mono hcur.size)
          clear hcur
          have hcur := hcur2
          clear hcur2
          clear hbC
          clear hHeld
          refine hK.out _ _ ?hS228 (fun hHeld => ?rest228)
          case hS228 => (intro q hq; first | exact hcur.cell hq | exact hcur.drew.cell hq)
          clear hK K
          try simp only [Act.put, List.setIfInBounds_toArray, List.set_cons_zero, List.set_cons_succ]
          refine wpAnyH_ready (rs := [11]) (by kernel_rfl) (by simp) ?_
          refine AllReadyH.cons rfl (fun K hK => ?_) AllReadyH.nil
          have HD2 := decode_hello hRC (fun g e => by cases e; exact hsC) (by intro z hz; simp at hz; omega) 1 (code_one _ _)
          rw [show [1, 128 + k, 0, y, x] = 1 :: (128 + k) :: 0 :: [y, x] from rfl, hello_client _ _ (numP_grown1 k _ (by omega))] at HD2
          simp only [List.length_cons, List.length_nil, Nat.zero_add, Nat.reduceAdd] at HD2
          go_simp
          refine HD2.mono ?_
          rintro e2 wD ⟨rfl, hbD⟩
          clear HD2
          unfold zeroV
          have hE2 := (hbD.block _ (Array.getElem?_eq_some_iff.1 hE).1).trans hE
          clear hE
          have hE := hE2
          clear hE2
          have hcur2 : Below w7.heap.size w7 wD := hcur.trans (hbD.mono hcur.size)
          clear hcur
          have hcur := hcur2
          clear hcur2
          clear hbD
          clear hHeld
          refine hK.out _ _ ?hS235 (fun hHeld => ?rest235)
          case hS235 => (intro q hq; first | exact hcur.cell hq | exact hcur.drew.cell hq)
          clear hK K
          try simp only [Act.put, List.setIfInBounds_toArray, List.set_cons_zero, List.set_cons_succ]
          refine takeD (i := 12) (d := some 65) (v := ?vT238) rfl rfl (by kernel_rfl) (by kernel_rfl) (by kernel_rfl) (fun _ _ _ h => h) (Or.inl ⟨by rfl, ?hyT238⟩) (by assumption) ?rstT238
          case hyT238 => (intro w hSw; (try dsimp only at hSw); go_simp; (try with_reducible rfl))
          try simp only [Act.put, List.setIfInBounds_toArray, List.set_cons_zero, List.set_cons_succ]
          refine takeD (i := 13) (d := some 78) (v := ?vT239) rfl rfl (by kernel_rfl) (by kernel_rfl) (by kernel_rfl) (fun _ _ _ h => h) (Or.inl ⟨by rfl, ?hyT239⟩) (by assumption) ?rstT239
          case hyT239 => (intro w hSw; (try dsimp only at hSw); go_simp; (try with_reducible rfl))
          try simp only [Act.put, List.setIfInBounds_toArray, List.set_cons_zero, List.set_cons_succ]
          refine takeD (i := 14) (d := some 79) (v := ?vT240) rfl rfl (by kernel_rfl) (by kernel_rfl) (by kernel_rfl) (fun _ _ _ h => h) (Or.inl ⟨by rfl, ?hyT240⟩) (by assumption) ?rstT240
          case hyT240 => (intro w hSw; (try dsimp only at hSw); go_simp; (try with_reducible rfl))
          try simp only [Act.put, List.setIfInBounds_toArray, List.set_cons_zero, List.set_cons_succ]
          refine takeD (i := 15) (d := some 80) (v := ?vT241) rfl rfl (by kernel_rfl) (by kernel_rfl) (by kernel_rfl) (fun _ _ _ h => h) (Or.inl ⟨by rfl, ?hyT241⟩) (by assumption) ?rstT241
          case hyT241 => (intro w hSw; (try dsimp only at hSw); go_simp; (try with_reducible rfl))
          try simp only [Act.put, List.setIfInBounds_toArray, List.set_cons_zero, List.set_cons_succ]
          obtain ⟨z0, z1, z2, z3, z4, z5, z6, z7, z8, z9, z10, z11, z12⟩ := box13 hE
          have FZ : ∀ i, wD.frozen? ⟨wA.heap.size, i, none⟩ = false := fun i => Lib.frozen_of_heap hE i
          have hst := set13 hE (.int .i64 0) (.int .i64 0) (.int .i64 0) (.int .i64 0) (.int .i64 0) (.int .i64 0) (.int .i64 0) (.int .i64 0) (.string ⟨#[]⟩) (.slice none 0 0) (.int .i64 0) (.int .i64 0) (.bool false)
          obtain ⟨wF, ewF⟩ : ∃ W, (((((((((((((wD.setCell ⟨wA.heap.size, 0, none⟩ (.int .i64 0)).setCell ⟨wA.heap.size, 1, none⟩ (.int .i64 0)).setCell ⟨wA.heap.size, 2, none⟩ (.int .i64 0)).setCell ⟨wA.heap.size, 3, none⟩ (.int .i64 0)).setCell ⟨wA.heap.size, 4, none⟩ (.int .i64 0)).setCell ⟨wA.heap.size, 5, none⟩ (.int .i64 0)).setCell ⟨wA.heap.size, 6, none⟩ (.int .i64 0)).setCell ⟨wA.heap.size, 7, none⟩ (.int .i64 0)).setCell ⟨wA.heap.size, 8, none⟩ (.string ⟨#[]⟩)).setCell ⟨wA.heap.size, 9, none⟩ (.slice none 0 0)).setCell ⟨wA.heap.size, 10, none⟩ (.int .i64 0)).setCell ⟨wA.heap.size, 11, none⟩ (.int .i64 0)).setCell ⟨wA.heap.size, 12, none⟩ (.bool false)) = W := ⟨_, rfl⟩
          rw [ewF] at hst
          have hcurF : Below w7.heap.size w7 wF := hcur.trans (hst.2.below (B := w7.heap.size) (fun g e => by omega) hcur.size)
          refine wpAnyH_ready (rs := [17]) (by kernel_rfl) (by simp) ?_
          refine AllReadyH.cons rfl (fun K hK => ?_) AllReadyH.nil
          go_simp
          clear hcur
          have hcur := hcurF
          clear hHeld
          refine hK.out _ _ ?hS242 (fun hHeld => ?rest242)
          case hS242 => (intro q hq; first | exact hcur.cell hq | exact hcur.drew.cell hq)
          clear hK K
          try simp only [Act.put, List.setIfInBounds_toArray, List.set_cons_zero, List.set_cons_succ]
          refine takeD (i := 18) (d := some 12) (v := ?vT243) rfl rfl (by kernel_rfl) (by kernel_rfl) (by kernel_rfl) (fun _ _ _ h => h) (Or.inl ⟨by rfl, ?hyT243⟩) (by assumption) ?rstT243
          case hyT243 => (intro w hSw; (try dsimp only at hSw); go_simp; (try with_reducible rfl))
          try simp only [Act.put, List.setIfInBounds_toArray, List.set_cons_zero, List.set_cons_succ]
          refine takeD (i := 19) (d := some 13) (v := ?vT244) rfl rfl (by kernel_rfl) (by kernel_rfl) (by kernel_rfl) (fun _ _ _ h => h) (Or.inl ⟨by rfl, ?hyT244⟩) (by assumption) ?rstT244
          case hyT244 => (intro w hSw; (try dsimp only at hSw); go_simp; (try with_reducible rfl))
          try simp only [Act.put, List.setIfInBounds_toArray, List.set_cons_zero, List.set_cons_succ]
          refine wpAnyH_done (by kernel_rfl) ?_ _
          clear hHeld
          go_wp2_with fail
          go_meet
          case rel => exact ⟨rfl, rfl, by first | exact hcurF | exact hcurF.drew⟩
      case bB155 =>
        obtain ⟨wE, ewE⟩ : ∃ W, (w7.alloc (.cells #[.int .i64 0, .int .i64 0, .int .i64 0, .int .i64 0, .int .i64 0, .int .i64 0, .int .i64 0, .int .i64 0, .string ⟨#[]⟩, .slice none 0 0, .int .i64 0, .int .i64 0, .bool false] 37)).drew = W := ⟨_, rfl⟩
        have hbE : Below w7.drew.heap.size w7.drew wE := by rw [← ewE]; exact (show Below w7.drew.heap.size w7.drew (w7.drew.alloc (.cells #[.int .i64 0, .int .i64 0, .int .i64 0, .int .i64 0, .int .i64 0, .int .i64 0, .int .i64 0, .int .i64 0, .string ⟨#[]⟩, .slice none 0 0, .int .i64 0, .int .i64 0, .bool false] 37)) from (Below.refl _ _).alloc (Nat.le_refl _) _)
        go_simp
        have hcur2 : Below w7.heap.size w7 wE := hcur.trans (hbE.mono hcur.size)
        clear hcur
        have hcur := hcur2
        clear hcur2
        have hE : wE.heap[w7.heap.size]? = some (.cells #[.int .i64 0, .int .i64 0, .int .i64 0, .int .i64 0, .int .i64 0, .int .i64 0, .int .i64 0, .int .i64 0, .string ⟨#[]⟩, .slice none 0 0, .int .i64 0, .int .i64 0, .bool false] 37) := ewE ▸ heap_alloc_new _ _
        have hEw : w7.heap.size ≤ w7.heap.size := Nat.le_refl _
        clear hbE ewE
        clear hHeld
        refine hK.out _ _ ?hS245 (fun hHeld => ?rest245)
        case hS245 => (intro q hq; first | exact hcur.cell hq | exact hcur.drew.cell hq)
        clear hK K
        try simp only [Act.put, List.setIfInBounds_toArray, List.set_cons_zero, List.set_cons_succ]
        refine wpAnyH_ready (rs := [5]) (by kernel_rfl) (by simp) ?_
        refine AllReadyH.cons rfl (fun K hK => ?_) AllReadyH.nil
        go_simp
        refine (HGr.out _ hcur).mono ?_
        rintro e2 wA ⟨vA, rfl, hoA, hbA⟩
        obtain ⟨aA, capA, hvA⟩ := hoA.shape
        have hvA' : vA = .slice aA 2 capA := hvA
        subst hvA'
        clear hvA
        have hE2 := (hbA.block _ (Array.getElem?_eq_some_iff.1 hE).1).trans hE
        clear hE
        have hE := hE2
        clear hE2
        have hcur2 : Below w7.heap.size w7 wA := hcur.trans (hbA.mono hcur.size)
        clear hcur
        have hcur := hcur2
        clear hcur2
        have hRA := hoA.rw_ layB
        clear hoA hbA
        clear hHeld
        refine hK.out _ _ ?hS246 (fun hHeld => ?rest246)
        case hS246 => (intro q hq; first | exact hcur.cell hq | exact hcur.drew.cell hq)
        clear hK K
        try simp only [Act.put, List.setIfInBounds_toArray, List.set_cons_zero, List.set_cons_succ]
        refine wpAnyH_ready (rs := [6]) (by kernel_rfl) (by simp) ?_
        refine AllReadyH.cons rfl (fun K hK => ?_) AllReadyH.nil
        have hcvB := conv_bytes hRA (by omega) (by intro z hz; simp at hz; omega)
        go_simp
        clear hcvB
        clear hHeld
        refine hK.out _ _ ?hS253 (fun hHeld => ?rest253)
        case hS253 => (intro q hq; first | exact hcur.cell hq | exact hcur.drew.cell hq)
        clear hK K
        try simp only [Act.put, List.setIfInBounds_toArray, List.set_cons_zero, List.set_cons_succ]
        refine takeD (i := 7) (d := some 73) (v := ?vT254) rfl rfl (by kernel_rfl) (by kernel_rfl) (by kernel_rfl) (fun _ _ _ h => h) (Or.inl ⟨by rfl, ?hyT254⟩) (by assumption) ?rstT254
        case hyT254 => (intro w hSw; (try dsimp only at hSw); go_simp; (try with_reducible rfl))
        try simp only [Act.put, List.setIfInBounds_toArray, List.set_cons_zero, List.set_cons_succ]
        refine takeD (i := 9) (d := some 75) (v := ?vT255) rfl rfl (by kernel_rfl) (by kernel_rfl) (by kernel_rfl) (fun _ _ _ h => h) (Or.inl ⟨by rfl, ?hyT255⟩) (by assumption) ?rstT255
        case hyT255 => (intro w hSw; (try dsimp only at hSw); go_simp; (try with_reducible rfl))
        try simp only [Act.put, List.setIfInBounds_toArray, List.set_cons_zero, List.set_cons_succ]
        refine wpAnyH_ready (rs := [10]) (by kernel_rfl) (by simp) ?_
        refine AllReadyH.cons rfl (fun K hK => ?_) AllReadyH.nil
        obtain ⟨cpC, wC, hrC, hRC, hbC, hsC⟩ := back_bytes wA [1, 128 + k, 0, y, x] (by intro z hz; simp at hz; omega) (by simp)
        simp only [List.length_cons, List.length_nil, Nat.zero_add, Nat.reduceAdd] at hrC
        go_simp
        clear hrC
        have hE2 := (hbC.block _ (Array.getElem?_eq_some_iff.1 hE).1).trans hE
        clear hE
        have hE := hE2
        clear hE2
        have hcur2 : Below w7.heap.size w7 wC := hcur.trans (hbC.mono hcur.size)
        clear hcur
        have hcur := hcur2
        clear hcur2
        clear hbC
        clear hHeld
        refine hK.out _ _ ?hS260 (fun hHeld => ?rest260)
        case hS260 => (intro q hq; first | exact hcur.cell hq | exact hcur.drew.cell hq)
        clear hK K
        try simp only [Act.put, List.setIfInBounds_toArray, List.set_cons_zero, List.set_cons_succ]
        refine wpAnyH_ready (rs := [11]) (by kernel_rfl) (by simp) ?_
        refine AllReadyH.cons rfl (fun K hK => ?_) AllReadyH.nil
        have HD2 := decode_hello hRC (fun g e => by cases e; exact hsC) (by intro z hz; simp at hz; omega) 1 (code_one _ _)
        rw [show [1, 128 + k, 0, y, x] = 1 :: (128 + k) :: 0 :: [y, x] from rfl, hello_client _ _ (numP_grown1 k _ (by omega))] at HD2
        simp only [List.length_cons, List.length_nil, Nat.zero_add, Nat.reduceAdd] at HD2
        go_simp
        refine HD2.mono ?_
        rintro e2 wD ⟨rfl, hbD⟩
        clear HD2
        unfold zeroV
        have hE2 := (hbD.block _ (Array.getElem?_eq_some_iff.1 hE).1).trans hE
        clear hE
        have hE := hE2
        clear hE2
        have hcur2 : Below w7.heap.size w7 wD := hcur.trans (hbD.mono hcur.size)
        clear hcur
        have hcur := hcur2
        clear hcur2
        clear hbD
        clear hHeld
        refine hK.out _ _ ?hS267 (fun hHeld => ?rest267)
        case hS267 => (intro q hq; first | exact hcur.cell hq | exact hcur.drew.cell hq)
        clear hK K
        try simp only [Act.put, List.setIfInBounds_toArray, List.set_cons_zero, List.set_cons_succ]
        refine takeD (i := 12) (d := some 65) (v := ?vT270) rfl rfl (by kernel_rfl) (by kernel_rfl) (by kernel_rfl) (fun _ _ _ h => h) (Or.inl ⟨by rfl, ?hyT270⟩) (by assumption) ?rstT270
        case hyT270 => (intro w hSw; (try dsimp only at hSw); go_simp; (try with_reducible rfl))
        try simp only [Act.put, List.setIfInBounds_toArray, List.set_cons_zero, List.set_cons_succ]
        refine takeD (i := 13) (d := some 78) (v := ?vT271) rfl rfl (by kernel_rfl) (by kernel_rfl) (by kernel_rfl) (fun _ _ _ h => h) (Or.inl ⟨by rfl, ?hyT271⟩) (by assumption) ?rstT271
        case hyT271 => (intro w hSw; (try dsimp only at hSw); go_simp; (try with_reducible rfl))
        try simp only [Act.put, List.setIfInBounds_toArray, List.set_cons_zero, List.set_cons_succ]
        refine takeD (i := 14) (d := some 79) (v := ?vT272) rfl rfl (by kernel_rfl) (by kernel_rfl) (by kernel_rfl) (fun _ _ _ h => h) (Or.inl ⟨by rfl, ?hyT272⟩) (by assumption) ?rstT272
        case hyT272 => (intro w hSw; (try dsimp only at hSw); go_simp; (try with_reducible rfl))
        try simp only [Act.put, List.setIfInBounds_toArray, List.set_cons_zero, List.set_cons_succ]
        refine takeD (i := 15) (d := some 80) (v := ?vT273) rfl rfl (by kernel_rfl) (by kernel_rfl) (by kernel_rfl) (fun _ _ _ h => h) (Or.inl ⟨by rfl, ?hyT273⟩) (by assumption) ?rstT273
        case hyT273 => (intro w hSw; (try dsimp only at hSw); go_simp; (try with_reducible rfl))
        try simp only [Act.put, List.setIfInBounds_toArray, List.set_cons_zero, List.set_cons_succ]
        obtain ⟨z0, z1, z2, z3, z4, z5, z6, z7, z8, z9, z10, z11, z12⟩ := box13 hE
        have FZ : ∀ i, wD.frozen? ⟨w7.heap.size, i, none⟩ = false := fun i => Lib.frozen_of_heap hE i
        have hst := set13 hE (.int .i64 0) (.int .i64 0) (.int .i64 0) (.int .i64 0) (.int .i64 0) (.int .i64 0) (.int .i64 0) (.int .i64 0) (.string ⟨#[]⟩) (.slice none 0 0) (.int .i64 0) (.int .i64 0) (.bool false)
        obtain ⟨wF, ewF⟩ : ∃ W, (((((((((((((wD.setCell ⟨w7.heap.size, 0, none⟩ (.int .i64 0)).setCell ⟨w7.heap.size, 1, none⟩ (.int .i64 0)).setCell ⟨w7.heap.size, 2, none⟩ (.int .i64 0)).setCell ⟨w7.heap.size, 3, none⟩ (.int .i64 0)).setCell ⟨w7.heap.size, 4, none⟩ (.int .i64 0)).setCell ⟨w7.heap.size, 5, none⟩ (.int .i64 0)).setCell ⟨w7.heap.size, 6, none⟩ (.int .i64 0)).setCell ⟨w7.heap.size, 7, none⟩ (.int .i64 0)).setCell ⟨w7.heap.size, 8, none⟩ (.string ⟨#[]⟩)).setCell ⟨w7.heap.size, 9, none⟩ (.slice none 0 0)).setCell ⟨w7.heap.size, 10, none⟩ (.int .i64 0)).setCell ⟨w7.heap.size, 11, none⟩ (.int .i64 0)).setCell ⟨w7.heap.size, 12, none⟩ (.bool false)) = W := ⟨_, rfl⟩
        rw [ewF] at hst
        have hcurF : Below w7.heap.size w7 wF := hcur.trans (hst.2.below (B := w7.heap.size) (fun g e => by omega) hcur.size)
        refine wpAnyH_ready (rs := [17]) (by kernel_rfl) (by simp) ?_
        refine AllReadyH.cons rfl (fun K hK => ?_) AllReadyH.nil
        go_simp
        clear hcur
        have hcur := hcurF
        clear hHeld
        refine hK.out _ _ ?hS274 (fun hHeld => ?rest274)
        case hS274 => (intro q hq; first | exact hcur.cell hq | exact hcur.drew.cell hq)
        clear hK K
        try simp only [Act.put, List.setIfInBounds_toArray, List.set_cons_zero, List.set_cons_succ]
        refine takeD (i := 18) (d := some 12) (v := ?vT275) rfl rfl (by kernel_rfl) (by kernel_rfl) (by kernel_rfl) (fun _ _ _ h => h) (Or.inl ⟨by rfl, ?hyT275⟩) (by assumption) ?rstT275
        case hyT275 => (intro w hSw; (try dsimp only at hSw); go_simp; (try with_reducible rfl))
        try simp only [Act.put, List.setIfInBounds_toArray, List.set_cons_zero, List.set_cons_succ]
        refine takeD (i := 19) (d := some 13) (v := ?vT276) rfl rfl (by kernel_rfl) (by kernel_rfl) (by kernel_rfl) (fun _ _ _ h => h) (Or.inl ⟨by rfl, ?hyT276⟩) (by assumption) ?rstT276
        case hyT276 => (intro w hSw; (try dsimp only at hSw); go_simp; (try with_reducible rfl))
        try simp only [Act.put, List.setIfInBounds_toArray, List.set_cons_zero, List.set_cons_succ]
        refine wpAnyH_done (by kernel_rfl) ?_ _
        clear hHeld
        go_wp2_with fail
        go_meet
        case rel => exact ⟨rfl, rfl, by first | exact hcurF | exact hcurF.drew⟩
    case rest =>
      obtain ⟨rfl, rfl, hbc⟩ := hcut
      have hb2c : Below w2.heap.size w2 wc := HK7.out.trans (hbc.mono HK7.out.size)
      clear HV3 HGr hcatA hcatB zs1 zs2 zs3 zs4 C3 C4 hbc HK7 ew7 HK
      have zs5 : (strB [1, k]).size = 2 := strB_size _
      have hcat1 : strB [1, k] ++ (⟨#[128, 128, 128, 128, 1]⟩ : ByteArray) = strB [1, k, 128, 128, 128, 128, 1] := strB_append [1, k] [128, 128, 128, 128, 1]
      have hcat2 : strB [1, k] ++ (⟨#[129, 64]⟩ : ByteArray) = strB [1, k, 129, 64] := strB_append [1, k] [129, 64]
      obtain ⟨cp8, w8, hr8, hR8, hb8, hs8⟩ := back_bytes wc [1, k, 128, 128, 128, 128, 1] (by intro z hz; simp at hz; omega) (by simp)
      have HD := decode_hello hR8 (fun g e => by cases e; exact hs8) (by intro z hz; simp at hz; omega) 1 (code_one _ _)
      rw [hello_rev _ k [128, 128, 128, 128, 1] hk 2 101 (rev_five _)] at HD
      simp only [List.length_cons, List.length_nil, Nat.zero_add, Nat.reduceAdd] at hr8 HD
      have hb28 := hb2c.trans (hb8.mono hb2c.size)
      clear hR8 hs8 hb8 hb2c
      go_wp2_with fail
      refine HD.mono ?_
      rintro e w9 ⟨rfl, hb9⟩
      clear HD hr8
      unfold zeroV
      have hb2a : Below w2.heap.size w2 (w9.alloc (.cells #[.int .i64 0, .int .i64 0, .int .i64 0, .int .i64 0, .int .i64 0, .int .i64 0, .int .i64 0, .int .i64 0, .string ⟨#[]⟩, .slice none 0 0, .int .i64 0, .int .i64 0, .bool false] 37)) := (hb28.trans (hb9.mono hb28.size)).alloc (by have := hb28.size; have := hb9.size; omega) _
      obtain ⟨cpb, wb, hrb, hRb, hbb, hsb⟩ := back_bytes (w9.alloc (.cells #[.int .i64 0, .int .i64 0, .int .i64 0, .int .i64 0, .int .i64 0, .int .i64 0, .int .i64 0, .int .i64 0, .string ⟨#[]⟩, .slice none 0 0, .int .i64 0, .int .i64 0, .bool false] 37)) [1, k, 129, 64] (by intro z hz; simp at hz; omega) (by simp)
      have HD := decode_hello hRb (fun g e => by cases e; exact hsb) (by intro z hz; simp at hz; omega) 1 (code_one _ _)
      rw [hello_rev _ k [129, 64] hk 2 104 (rev_above _)] at HD
      simp only [List.length_cons, List.length_nil, Nat.zero_add, Nat.reduceAdd, World.size_alloc] at hrb HD
      have hb2b := hb2a.trans (hbb.mono hb2a.size)
      clear hRb hsb hbb hb2a hb28 hb9
      go_wp2_with fail
      refine HD.mono ?_
      rintro e wd ⟨rfl, hbd⟩
      clear HD hrb hcat1 hcat2 zs5
      unfold zeroV
      have hb2d := hb2b.trans (hbd.mono hb2b.size)
      clear hb2b hbd
      obtain ⟨hbw2, hM2⟩ := HB2.out
      have hMl := (Array.getElem?_eq_some_iff.1 hM2).1
      have hMd := (hb2d.block _ hMl).trans hM2
      obtain ⟨m0, m1, m2, m3, m4, m5, m6, m7, m8, m9, m10, m11, m12⟩ := box13 hMd
      have FM : ∀ i, wd.frozen? ⟨w1.heap.size, i, none⟩ = false := fun i => Lib.frozen_of_heap hMd i
      have hMlt : w1.heap.size < wd.heap.size := (Array.getElem?_eq_some_iff.1 hMd).1
      have HN : Hid (Below w.heap.size w wd ∧ wd.heap[w1.heap.size]? = some (.cells #[.int .i64 1, .int .i64 (k : Int), .int .i64 (r : Int), .int .i64 0, .int .i64 0, .int .i64 0, .int .i64 0, .int .i64 0, .string ⟨#[]⟩, .slice none 0 0, .int .i64 0, .int .i64 0, .bool false] 37) ∧ w.heap.size ≤ w1.heap.size) := ⟨hbw2.trans (hb2d.mono hbw2.size), hMd, HW1.out⟩
      clear hbw2 hM2 hMl hMd hb2d HB2
      go_wp2_with fail
      refine (encode_ok _ k 8192 hk (by omega)).mono ?_
      rintro e we ⟨v9, rfl, _, hbe⟩
      clear m0 m1 m2 m3 m4 m5 m6 m7 m8 m9 m10 m11 m12 FM
      obtain ⟨hbwd, hMd, hww⟩ := HN.out
      clear HN
      have hbs0 : Below w.heap.size w (wd.setCell ⟨w1.heap.size, 2, none⟩ (.int .i64 8192)) := hbwd.setCell hww _
      have hbs := hbs0.alloc hbs0.size (.cells #[.int .i64 0, .int .i64 0, .int .i64 0, .int .i64 0, .int .i64 0, .int .i64 0, .int .i64 0, .int .i64 0, .string ⟨#[]⟩, .slice none 0 0, .int .i64 0, .int .i64 0, .bool false] 37)
      have hsz : (wd.setCell ⟨w1.heap.size, 2, none⟩ (.int .i64 8192)).heap.size = wd.heap.size := by simp [World.setCell]
      have hMs : (wd.setCell ⟨w1.heap.size, 2, none⟩ (.int .i64 8192)).heap[w1.heap.size]? = some (.cells #[.int .i64 1, .int .i64 (k : Int), .int .i64 8192, .int .i64 0, .int .i64 0, .int .i64 0, .int .i64 0, .int .i64 0, .string ⟨#[]⟩, .slice none 0 0, .int .i64 0, .int .i64 0, .bool false] 37) := heap_setCell_cells hMd 2 _
      have hMe : we.heap[w1.heap.size]? = some (.cells #[.int .i64 1, .int .i64 (k : Int), .int .i64 8192, .int .i64 0, .int .i64 0, .int .i64 0, .int .i64 0, .int .i64 0, .string ⟨#[]⟩, .slice none 0 0, .int .i64 0, .int .i64 0, .bool false] 37) := (hbe.block _ (by rw [World.size_alloc, hsz]; omega)).trans ((Below.heap_alloc _ _ _ (by rw [hsz]; exact hMlt)).trans hMs)
      have hbe2 : Below w.heap.size w we := hbs.trans (hbe.mono hbs.size)
      obtain ⟨m0, m1, m2, m3, m4, m5, m6, m7, m8, m9, m10, m11, m12⟩ := box13 hMe
      have FM : ∀ i, we.frozen? ⟨w1.heap.size, i, none⟩ = false := fun i => Lib.frozen_of_heap hMe i
      have HN : Hid (Below w.heap.size w we ∧ w.heap.size ≤ w1.heap.size) := ⟨hbe2, hww⟩
      clear hbwd hMd hww hbs hbs0 hsz hMs hMe hbe hbe2 hMlt
      go_wp2_with fail
      refine (encode_rev _ k 8193 (by omega) (by omega)).mono ?_
      rintro e wf ⟨rfl, hbf⟩
      clear m0 m1 m2 m3 m4 m5 m6 m7 m8 m9 m10 m11 m12 FM
      go_wp2_with fail
      go_ret
      obtain ⟨hbe2, hww⟩ := HN.out
      have hbs : Below w.heap.size w (we.setCell ⟨w1.heap.size, 2, none⟩ (.int .i64 8193)) := hbe2.setCell hww _
      exact ⟨rfl, hbs.trans (hbf.mono hbs.size)⟩
end Go.Proofs.YtkdhcokefnffaaaDoor
