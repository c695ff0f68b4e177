import Derived.Test.YtaphkaodcdpcaaaDoorPgK
/-! PageKeeps. -/
namespace Go.Proofs.YtaphkaodcdpcaaaDoor
open Go.RowKit Go.Lib
set_option maxRecDepth 100000

def nxt (x : Rv) : Nat := if x.hard then x.hi + 1 else x.hi
/-- Where the row behind some rows begins. -/
def posn : Nat → List Rv → Nat
  | a, [] => a
  | _, x :: l => posn (nxt x) l
theorem posn_snoc : ∀ (l : List Rv) (a : Nat) (x : Rv), posn a (l ++ [x]) = nxt x
  | [], _, _ => rfl
  | _ :: l, _, x => posn_snoc l _ x
theorem ch_posn : ∀ {l : List Rv} {a b : Nat}, Ch a l b → posn a l = b
  | [], _, _, h => h
  | x :: l, _, b, ⟨_, h⟩ => (ch_posn h : posn (nxt x) l = b)
theorem Ch.lo : ∀ {l : List Rv} {a b : Nat}, Ch a l b → ∀ (i : Nat) (x : Rv), l[i]? = some x → x.lo = posn a (l.take i)
  | [], _, _, _, i, x, h => by simp at h
  | y :: l, a, b, ⟨h1, h2⟩, 0, x, h => by
    simp at h
    subst h
    exact h1
  | y :: l, a, b, ⟨h1, h2⟩, i + 1, x, h => by
    simp only [List.getElem?_cons_succ] at h
    exact Ch.lo h2 i x h
theorem posn_succ {l : List Rv} {i : Nat} {x : Rv} (h : l[i]? = some x) (a : Nat) : posn a (l.take (i + 1)) = nxt x := by
  obtain ⟨hi, rfl⟩ := List.getElem?_eq_some_iff.1 h
  rw [List.take_succ_eq_append_getElem hi, posn_snoc]
/-- What is known of row i. -/
structure RowI (rs : List Int) (W : Nat) (i k : Nat) (lo hi : Nat) (hard : Bool) : Prop where
  get : (rowsP rs W)[i]? = some ⟨lo, hi, hard⟩
  at_ : lo = posn 0 ((rowsP rs W).take i)
  next : posn 0 ((rowsP rs W).take (i + 1)) = if hard then hi + 1 else hi
  le : lo ≤ hi
  len : hi ≤ rs.length
  line : ∀ q, lo ≤ q → q < hi → ∀ r, rs[q]? = some r → r ≠ 10
  wide : wd rs lo hi ≤ W ∨ hi = lo + 1
  last : i + 1 = k → hard = true ∧ hi = rs.length
  mid : i + 1 < k → hi < rs.length
  nl : i + 1 < k → hard = true → rs[hi]? = some 10
  soft : hard = false → lo < hi ∧ ∃ r, rs[hi]? = some r ∧ r ≠ 10
theorem rowI (rs : List Int) (W : Nat) {i : Nat} (h : i < (rowsP rs W).length) : ∃ lo hi hard, RowI rs W i (rowsP rs W).length lo hi hard := by
  obtain ⟨hok, hch⟩ := rowsP_ok rs W
  have hx : (rowsP rs W)[i]? = some (rowsP rs W)[i] := List.getElem?_eq_getElem h
  generalize (rowsP rs W)[i] = x at hx
  have hr := hok x (List.mem_of_getElem? hx)
  have hsoft : x.hard = false → ∃ r, rs[x.hi]? = some r ∧ r ≠ 10 := fun e => by
    obtain ⟨h1, h2, j, r, h3, h4, h5, h6, h7⟩ := hr.soft e
    rcases Nat.eq_or_lt_of_le h3 with h8 | h8
    · exact ⟨r, by rw [h8]; exact h4, h5⟩
    · have hj := (List.getElem?_eq_some_iff.1 h4).1
      have : rs[x.hi]? = some rs[x.hi] := List.getElem?_eq_getElem (by omega)
      exact ⟨_, this, (h6 x.hi (Nat.le_refl _) h8 _ this).2⟩
  refine ⟨x.lo, x.hi, x.hard, ⟨hx, hch.lo i x hx, posn_succ hx 0, hr.le, hr.len, hr.line, hr.wide, fun e => ?_, fun e => ?_, fun e eh => ?_, fun e => ⟨(hr.soft e).1, hsoft e⟩⟩⟩
  · have h1 := posn_succ hx 0
    rw [e, List.take_length, ch_posn hch] at h1
    unfold nxt at h1
    have := hr.len
    cases hh : x.hard with
    | true => rw [hh] at h1; simp at h1; exact ⟨rfl, by omega⟩
    | false => rw [hh] at h1; simp at h1; omega
  · cases hh : x.hard with
    | false =>
      obtain ⟨r, h1, _⟩ := hsoft hh
      exact (List.getElem?_eq_some_iff.1 h1).1
    | true =>
      have hy : (rowsP rs W)[i + 1]? = some (rowsP rs W)[i + 1] := List.getElem?_eq_getElem e
      have h1 := hch.lo (i + 1) _ hy
      have h2 := hok _ (List.mem_of_getElem? hy)
      rw [posn_succ hx 0, nxt, hh] at h1
      simp only [if_true] at h1
      have := h2.le
      have := h2.len
      omega
  · have hy : (rowsP rs W)[i + 1]? = some (rowsP rs W)[i + 1] := List.getElem?_eq_getElem e
    have h1 := hch.lo (i + 1) _ hy
    have h2 := hok _ (List.mem_of_getElem? hy)
    rw [posn_succ hx 0, nxt, eh] at h1
    simp only [if_true] at h1
    have := h2.le
    have := h2.len
    rcases hr.hard eh with h3 | h3
    · omega
    · exact h3
/-- As RowI, with the length of the text. -/
structure RowM (rs : List Int) (W : Nat) (i k m : Nat) (lo hi : Nat) (hard : Bool) : Prop extends RowI rs W i k lo hi hard where
  mm : rs.length = m
theorem wd_cols (rs : List Int) (a b : Nat) : wideN 0 ((rs.take b).drop a) = wd rs a b := rfl
set_option maxHeartbeats 16000000 in
theorem pageKeeps_any {w : World} {a : Option Addr} {n cap : Nat} {l : List Int} (h : Rw int1 1 w a n cap l) (wide : Int) (hP : PTab w) (hG : Glob w.heap.size) :
    Calls Tryd.prog 3 #[.slice a n cap, .int .i64 wide] w fun e w' => e = .returned (.bool true) ∧ Below w.heap.size w w' := by
  have HMa := made_any h
  have HT : Hid (PTab w ∧ Glob w.heap.size) := ⟨hP, hG⟩
  have hok := madeR_ok l
  have hml := madeR_len l
  have HRe : Hid (∀ V, Calls Tryd.prog 9 #[.int .i64 wide, .int .i64 40] V fun e w' => e = .returned (.int .i64 (wide % 40)) ∧ w' = V) := fun V => rest_any wide 40 (by decide) (by decide) V
  have hw0 : 0 ≤ wide % 40 := Int.emod_nonneg _ (by decide)
  have hw1 : wide % 40 < 40 := Int.emod_lt_of_pos _ (by decide)
  obtain ⟨W, hW⟩ : ∃ W : Nat, 1 + wide % 40 = (W : Int) := ⟨(1 + wide % 40).toNat, by omega⟩
  have hWb : 1 ≤ W ∧ W ≤ 40 := by omega
  generalize wide % 40 = wi at *
  generalize madeR l = rs at *
  clear h hP hG
  go_enter Tryd.func3, Tryd.ntmps3
  go_wp2_with fail
  refine HMa.mono ?_
  rintro e w1 ⟨v, rfl, ho1, hb1⟩
  obtain ⟨sa, caps, ev⟩ := ho1.shape
  obtain ⟨m, hm⟩ : ∃ m, rs.length = m := ⟨_, rfl⟩
  rw [hm] at ev hml
  subst ev
  have hR1 := ho1.rw_ layRu
  have HLd := laid_any hR1 hok (by omega) W ⟨by omega, by omega⟩ (HT.out.1.below hb1) (HT.out.2.mono hb1.size)
  have HB1 : Hid (Below w.heap.size w w1) := hb1
  clear HMa ho1 hb1
  go_wp2_with fail
  refine (HRe.out _).mono ?_
  rintro e w' ⟨rfl, hwe⟩
  obtain rfl := hwe.symm
  clear hwe HRe
  have hWw : IntKind.i64.wrap (1 + wi) = (W : Int) := by rw [hW]; exact IntWalk.i64_in _ (by omega)
  go_wp2_with fail
  refine HLd.mono ?_
  rintro e w2 ⟨v2, rfl, ho2, hb2⟩
  obtain ⟨al, capl, ev⟩ := ho2.shape
  obtain ⟨k, hk⟩ : ∃ k, (rowsP rs W).length = k := ⟨_, rfl⟩
  rw [rowsL_len, hk] at ev
  subst ev
  have hR2 := ho2.rw_ layL4
  have hfw := rowsP_few rs W
  have hne : (rowsP rs W).length ≠ 0 := fun e => rowsP_ne rs W (List.length_eq_zero_iff.1 e)
  rw [hk] at hfw hne
  rw [hm] at hfw
  have HW : Hid (1 + wi = (W : Int)) := hW
  have HB2 : Hid (Below w1.heap.size w1 w2) := hb2
  have HOk : Hid (∀ r ∈ rs, okR r) := hok
  clear HLd ho2 hb2 hok
  go_wp2_with fail
  go_loopw [9, 10] (fun va vi w' => ∃ i : Nat, vi = .int .i64 (i : Int) ∧ i < k ∧ va = .int .i64 (posn 0 ((rowsP rs W).take i) : Nat) ∧ Below w2.heap.size w2 w') (fun _ vi _ => k - (intOf vi).toNat)
  case atStart => exact ⟨0, rfl, by omega, rfl, Below.refl _ _⟩
  case round =>
    obtain ⟨i, rfl, hik, rfl, hb⟩ := hrel
    obtain ⟨lo, hi, hard, hI⟩ := rowI rs W (by rw [hk]; exact hik)
    rw [hk] at hI
    have HI : Hid (RowM rs W i k m lo hi hard) := ⟨hI, hm⟩
    obtain ⟨g, off, x, rfl, hg, hx, hc⟩ := hR2.at i hik
    rw [rowsL_get rs W hI.get] at hx
    obtain rfl := Option.some.inj hx
    have c0 : wr.cell? ⟨g, off + i * 4, none⟩ = some (.int .i64 (lo : Int)) := (hb.cell (p := ⟨g, off + i * 4, none⟩) hg).trans (hc 0 _ rfl)
    have c1 : wr.cell? ⟨g, off + i * 4 + 1, none⟩ = some (.int .i64 (hi : Int)) := (hb.cell (p := ⟨g, off + i * 4 + 1, none⟩) hg).trans (hc 1 _ rfl)
    have c2 : wr.cell? ⟨g, off + i * 4 + 2, none⟩ = some (.int .i64 (wd rs lo hi : Nat)) := (hb.cell (p := ⟨g, off + i * 4 + 2, none⟩) hg).trans (hc 2 _ rfl)
    have c3 : wr.cell? ⟨g, off + i * 4 + 3, none⟩ = some (.bool hard) := (hb.cell (p := ⟨g, off + i * 4 + 3, none⟩) hg).trans (hc 3 _ rfl)
    obtain ⟨hle, hlen, hwide⟩ : lo ≤ hi ∧ hi ≤ m ∧ (wd rs lo hi ≤ W ∨ hi = lo + 1) := ⟨hI.le, by rw [← hm]; exact hI.len, hI.wide⟩
    have hat := hI.at_
    have hwb : wd rs lo hi ≤ 800 := by have := wd_le rs lo hi; omega
    rw [← hat]
    have hb12 := HB2.out.trans (hb.mono HB2.out.size)
    obtain ⟨w3, hw3⟩ : ∃ V, wr.alloc (.cells #[.int .i64 (lo : Int), .int .i64 (hi : Int), .int .i64 (wd rs lo hi : Nat), .bool hard] 30) = V := ⟨_, rfl⟩
    have hx3 : w3.heap[wr.heap.size]? = some (.cells #[.int .i64 (lo : Int), .int .i64 (hi : Int), .int .i64 (wd rs lo hi : Nat), .bool hard] 30) := by rw [← hw3]; exact heap_alloc_new _ _
    have hb3 : Below wr.heap.size wr w3 := by rw [← hw3]; exact (Below.refl _ _).alloc (Nat.le_refl _) _
    obtain ⟨w4, hw4⟩ : ∃ V, w3.drew = V := ⟨_, rfl⟩
    have hb34 : Below w3.heap.size w3 w4 := by rw [← hw4]; exact (Below.refl _ _).drew
    have hx4 := (hb34.block _ (Array.getElem?_eq_some_iff.1 hx3).1).trans hx3
    have hb4 : Below wr.heap.size wr w4 := hb3.trans (hb34.mono hb3.size)
    obtain ⟨a', cap', hcut, hRc⟩ := cut_runes (hR1.below (hb12.trans (hb4.mono hb12.size))) lo hi hle hlen
    have HCo : Calls Tryd.prog 11 #[.slice a' (hi - lo) cap'] w4 fun e w' => e = .returned (.int .i64 (wd rs lo hi : Nat)) ∧ Below w4.heap.size w4 w' := cols_any hRc (by omega) ((HT.out.1.below HB1.out).below (hb12.trans (hb4.mono hb12.size)))
    have HSq : Hid (∀ V, Below wr.heap.size wr V → ∀ q, q < m → ∃ gs so r, sa = some ⟨gs, so, none⟩ ∧ rs[q]? = some r ∧ V.cell? ⟨gs, so + q, none⟩ = some (.int .i32 r)) := fun V hV q hq => by
      obtain ⟨gs, so, r, e, hgs, hr, hcq⟩ := (hR1.below (hb12.trans (hV.mono hb12.size))).at q hq
      exact ⟨gs, so, r, e, hr, by have := hcq 0 _ rfl; simpa using this⟩
    have HN : Hid (posn 0 ((rowsP rs W).take (i + 1)) = if hard then hi + 1 else hi) := hI.next
    have HB : Hid (Below w2.heap.size w2 wr) := hb
    clear hI hm hx hc hat hb12 hb hx3 hb34
    generalize wd rs lo hi = c at *
    obtain ⟨a0, a1, a2, a3⟩ := box4 (by rw [← hw3]; exact heap_alloc_new _ _ : w3.heap[wr.heap.size]? = some (.cells #[.int .i64 (lo : Int), .int .i64 (hi : Int), .int .i64 (c : Int), .bool hard] 30))
    obtain ⟨b0, b1, b2, b3⟩ := box4 hx4
    have z1 : ((lo : Int) != lo) = false := by simp
    have z2 : ((c : Int) != c) = false := by simp
    by_cases hcw : (c : Int) > W
    · have z3 : decide ((c : Int) > W) = true := decide_eq_true hcw
      have z4 : IntKind.i64.wrap ((hi : Int) - lo) = 1 := by rw [IntWalk.i64_in _ (by omega)]; omega
      clear hwide
      go_wp2_with fail
      try rw [hw3]
      clear hw3
      obtain ⟨Bx, hBx⟩ : ∃ b, wr.heap.size = b := ⟨_, rfl⟩
      have hs4 := hb4.size
      rw [hBx] at a0 a1 a2 a3 b0 b1 b2 b3 hx4 hb4 hs4 HSq ⊢
      have HBs : Hid (w2.heap.size ≤ Bx) := by rw [← hBx]; exact HB.out.size
      clear hBx
      refine wp_region_held_drew (S := (fun v => v.cell? ⟨Bx, 0, none⟩ = some (.int .i64 (lo : Int)) ∧ v.cell? ⟨Bx, 1, none⟩ = some (.int .i64 (hi : Int)) ∧ v.cell? ⟨Bx, 2, none⟩ = some (.int .i64 (c : Int)))) (by kernel_rfl) ?hSZ1 (fun hHeld => ?restZ1)
      case hSZ1 => exact ⟨a0, a1, a2⟩
      rw [hw4] at hHeld ⊢
      clear hw4 a0 a1 a2 a3
      refine takeD (i := 0) (d := some 36) (v := ?vT2) rfl rfl (by kernel_rfl) (by kernel_rfl) (by kernel_rfl) (fun _ _ _ h => h) (Or.inl ⟨by rfl, ?hyT2⟩) (by assumption) ?rstT2
      case hyT2 => (intro w hSw; (try dsimp only at hSw); obtain ⟨s0, s1, s2⟩ := hSw; go_simp; (try with_reducible rfl))
      try simp only [Act.put, List.setIfInBounds_toArray, List.set_cons_zero, List.set_cons_succ]
      refine takeD (i := 1) (d := some 37) (v := ?vT3) rfl rfl (by kernel_rfl) (by kernel_rfl) (by kernel_rfl) (fun _ _ _ h => h) (Or.inl ⟨by rfl, ?hyT3⟩) (by assumption) ?rstT3
      case hyT3 => (intro w hSw; (try dsimp only at hSw); obtain ⟨s0, s1, s2⟩ := hSw; go_simp; (try with_reducible rfl))
      try simp only [Act.put, List.setIfInBounds_toArray, List.set_cons_zero, List.set_cons_succ]
      refine takeD (i := 2) (d := some 38) (v := ?vT4) rfl rfl (by kernel_rfl) (by kernel_rfl) (by kernel_rfl) (fun _ _ _ h => h) (Or.inl ⟨by rfl, ?hyT4⟩) (by assumption) ?rstT4
      case hyT4 => (intro w hSw; (try dsimp only at hSw); obtain ⟨s0, s1, s2⟩ := hSw; go_simp; (try with_reducible rfl))
      try simp only [Act.put, List.setIfInBounds_toArray, List.set_cons_zero, List.set_cons_succ]
      refine takeD (i := 3) (d := some 39) (v := ?vT5) rfl rfl (by kernel_rfl) (by kernel_rfl) (by kernel_rfl) (fun _ _ _ h => h) (Or.inl ⟨by rfl, ?hyT5⟩) (by assumption) ?rstT5
      case hyT5 => (intro w hSw; (try dsimp only at hSw); obtain ⟨s0, s1, s2⟩ := hSw; go_simp; (try with_reducible rfl))
      try simp only [Act.put, List.setIfInBounds_toArray, List.set_cons_zero, List.set_cons_succ]
      refine takeD (i := 4) (d := some 40) (v := ?vT6) rfl rfl (by kernel_rfl) (by kernel_rfl) (by kernel_rfl) (fun _ _ _ h => h) (Or.inl ⟨by rfl, ?hyT6⟩) (by assumption) ?rstT6
      case hyT6 => (intro w hSw; (try dsimp only at hSw); obtain ⟨s0, s1, s2⟩ := hSw; go_simp; (try with_reducible rfl))
      try simp only [Act.put, List.setIfInBounds_toArray, List.set_cons_zero, List.set_cons_succ]
      refine takeD (i := 5) (d := some 41) (v := ?vT7) rfl rfl (by kernel_rfl) (by kernel_rfl) (by kernel_rfl) (fun _ _ _ h => h) (Or.inl ⟨by rfl, ?hyT7⟩) (by assumption) ?rstT7
      case hyT7 => (intro w hSw; (try dsimp only at hSw); obtain ⟨s0, s1, s2⟩ := hSw; go_simp; (try with_reducible rfl))
      try simp only [Act.put, List.setIfInBounds_toArray, List.set_cons_zero, List.set_cons_succ]
      refine takeD (i := 6) (d := some 42) (v := ?vT8) rfl rfl (by kernel_rfl) (by kernel_rfl) (by kernel_rfl) (fun _ _ _ h => h) (Or.inl ⟨by rfl, ?hyT8⟩) (by assumption) ?rstT8
      case hyT8 => (intro w hSw; (try dsimp only at hSw); obtain ⟨s0, s1, s2⟩ := hSw; go_simp; (try with_reducible rfl))
      try simp only [Act.put, List.setIfInBounds_toArray, List.set_cons_zero, List.set_cons_succ]
      refine takeD (i := 7) (d := some 43) (v := ?vT9) rfl rfl (by kernel_rfl) (by kernel_rfl) (by kernel_rfl) (fun _ _ _ h => h) (Or.inl ⟨by rfl, ?hyT9⟩) (by assumption) ?rstT9
      case hyT9 => (intro w hSw; (try dsimp only at hSw); obtain ⟨s0, s1, s2⟩ := hSw; go_simp; (try with_reducible rfl))
      try simp only [Act.put, List.setIfInBounds_toArray, List.set_cons_zero, List.set_cons_succ]
      refine takeD (i := 8) (d := some 44) (v := ?vT10) rfl rfl (by kernel_rfl) (by kernel_rfl) (by kernel_rfl) (fun _ _ _ h => h) (Or.inl ⟨by rfl, ?hyT10⟩) (by assumption) ?rstT10
      case hyT10 => (intro w hSw; (try dsimp only at hSw); obtain ⟨s0, s1, s2⟩ := hSw; go_simp; (try with_reducible rfl))
      try simp only [Act.put, List.setIfInBounds_toArray, List.set_cons_zero, List.set_cons_succ]
      refine takeD (i := 9) (d := some 45) (v := ?vT11) rfl rfl (by kernel_rfl) (by kernel_rfl) (by kernel_rfl) (fun _ _ _ h => h) (Or.inl ⟨by rfl, ?hyT11⟩) (by assumption) ?rstT11
      case hyT11 => (intro w hSw; (try dsimp only at hSw); obtain ⟨s0, s1, s2⟩ := hSw; go_simp; (try with_reducible rfl))
      try simp only [Act.put, List.setIfInBounds_toArray, List.set_cons_zero, List.set_cons_succ]
      refine takeD (i := 10) (d := some 46) (v := ?vT12) rfl rfl (by kernel_rfl) (by kernel_rfl) (by kernel_rfl) (fun _ _ _ h => h) (Or.inl ⟨by rfl, ?hyT12⟩) (by assumption) ?rstT12
      case hyT12 => (intro w hSw; (try dsimp only at hSw); obtain ⟨s0, s1, s2⟩ := hSw; go_simp; (try with_reducible rfl))
      try simp only [Act.put, List.setIfInBounds_toArray, List.set_cons_zero, List.set_cons_succ]
      refine takeD (i := 11) (d := some 47) (v := ?vT13) rfl rfl (by kernel_rfl) (by kernel_rfl) (by kernel_rfl) (fun _ _ _ h => h) (Or.inl ⟨by rfl, ?hyT13⟩) (by assumption) ?rstT13
      case hyT13 => (intro w hSw; (try dsimp only at hSw); obtain ⟨s0, s1, s2⟩ := hSw; go_simp; (try with_reducible rfl))
      try simp only [Act.put, List.setIfInBounds_toArray, List.set_cons_zero, List.set_cons_succ]
      refine takeD (i := 12) (d := some 48) (v := ?vT14) rfl rfl (by kernel_rfl) (by kernel_rfl) (by kernel_rfl) (fun _ _ _ h => h) (Or.inl ⟨by rfl, ?hyT14⟩) (by assumption) ?rstT14
      case hyT14 => (intro w hSw; (try dsimp only at hSw); obtain ⟨s0, s1, s2⟩ := hSw; go_simp; (try with_reducible rfl))
      try simp only [Act.put, List.setIfInBounds_toArray, List.set_cons_zero, List.set_cons_succ]
      refine wpAnyH_ready (rs := [13]) (by kernel_rfl) (by simp) ?_
      refine AllReadyH.cons rfl (fun K hK => ?_) AllReadyH.nil
      go_simp
      refine HCo.mono ?_
      rintro e w5 ⟨rfl, hb5⟩
      clear HCo
      have hx5 := (hb5.block _ (Array.getElem?_eq_some_iff.1 hx4).1).trans hx4
      obtain ⟨e0, e1, e2, e3⟩ := box4 hx5
      have hbt := hb4.trans (hb5.mono hs4)
      have hst := Nat.le_trans hs4 hb5.size
      clear hb4 hb5 hx4 b0 b1 b2 b3
      dsimp only
      clear hHeld
      refine hK.out _ _ ?hS1 (fun hHeld => ?rest1)
      case hS1 => exact ⟨e0, e1, e2⟩
      clear hK K
      try simp only [Act.put, List.setIfInBounds_toArray, List.set_cons_zero, List.set_cons_succ]
      refine takeD (i := 14) (d := some 50) (v := ?vT15) rfl rfl (by kernel_rfl) (by kernel_rfl) (by kernel_rfl) (fun _ _ _ h => h) (Or.inl ⟨by rfl, ?hyT15⟩) (by assumption) ?rstT15
      case hyT15 => (intro w hSw; (try dsimp only at hSw); obtain ⟨s0, s1, s2⟩ := hSw; go_simp; (try with_reducible rfl))
      try simp only [Act.put, List.setIfInBounds_toArray, List.set_cons_zero, List.set_cons_succ]
      refine takeD (i := 15) (d := some 51) (v := ?vT16) rfl rfl (by kernel_rfl) (by kernel_rfl) (by kernel_rfl) (fun _ _ _ h => h) (Or.inl ⟨by rfl, ?hyT16⟩) (by assumption) ?rstT16
      case hyT16 => (intro w hSw; (try dsimp only at hSw); obtain ⟨s0, s1, s2⟩ := hSw; go_simp; (try with_reducible rfl))
      try simp only [Act.put, List.setIfInBounds_toArray, List.set_cons_zero, List.set_cons_succ]
      refine takeD (i := 16) (d := some 52) (v := ?vT17) rfl rfl (by kernel_rfl) (by kernel_rfl) (by kernel_rfl) (fun _ _ _ h => h) (Or.inl ⟨by rfl, ?hyT17⟩) (by assumption) ?rstT17
      case hyT17 => (intro w hSw; (try dsimp only at hSw); obtain ⟨s0, s1, s2⟩ := hSw; go_simp; (try with_reducible rfl))
      try simp only [Act.put, List.setIfInBounds_toArray, List.set_cons_zero, List.set_cons_succ]
      refine takeD (i := 17) (d := some 53) (v := ?vT18) rfl rfl (by kernel_rfl) (by kernel_rfl) (by kernel_rfl) (fun _ _ _ h => h) (Or.inl ⟨by rfl, ?hyT18⟩) (by assumption) ?rstT18
      case hyT18 => (intro w hSw; (try dsimp only at hSw); obtain ⟨s0, s1, s2⟩ := hSw; go_simp; (try with_reducible rfl))
      try simp only [Act.put, List.setIfInBounds_toArray, List.set_cons_zero, List.set_cons_succ]
      refine takeD (i := 18) (d := some 54) (v := ?vT19) rfl rfl (by kernel_rfl) (by kernel_rfl) (by kernel_rfl) (fun _ _ _ h => h) (Or.inl ⟨by rfl, ?hyT19⟩) (by assumption) ?rstT19
      case hyT19 => (intro w hSw; (try dsimp only at hSw); obtain ⟨s0, s1, s2⟩ := hSw; go_simp; (try with_reducible rfl))
      try simp only [Act.put, List.setIfInBounds_toArray, List.set_cons_zero, List.set_cons_succ]
      refine takeD (i := 19) (d := some 55) (v := ?vT20) rfl rfl (by kernel_rfl) (by kernel_rfl) (by kernel_rfl) (fun _ _ _ h => h) (Or.inl ⟨by rfl, ?hyT20⟩) (by assumption) ?rstT20
      case hyT20 => (intro w hSw; (try dsimp only at hSw); obtain ⟨s0, s1, s2⟩ := hSw; go_simp; (try with_reducible rfl))
      try simp only [Act.put, List.setIfInBounds_toArray, List.set_cons_zero, List.set_cons_succ]
      refine takeD (i := 20) (d := some 56) (v := ?vT21) rfl rfl (by kernel_rfl) (by kernel_rfl) (by kernel_rfl) (fun _ _ _ h => h) (Or.inl ⟨by rfl, ?hyT21⟩) (by assumption) ?rstT21
      case hyT21 => (intro w hSw; (try dsimp only at hSw); obtain ⟨s0, s1, s2⟩ := hSw; go_simp; (try with_reducible rfl))
      try simp only [Act.put, List.setIfInBounds_toArray, List.set_cons_zero, List.set_cons_succ]
      refine takeD (i := 21) (d := some 57) (v := ?vT22) rfl rfl (by kernel_rfl) (by kernel_rfl) (by kernel_rfl) (fun _ _ _ h => h) (Or.inl ⟨by rfl, ?hyT22⟩) (by assumption) ?rstT22
      case hyT22 => (intro w hSw; (try dsimp only at hSw); obtain ⟨s0, s1, s2⟩ := hSw; go_simp; (try with_reducible rfl))
      try simp only [Act.put, List.setIfInBounds_toArray, List.set_cons_zero, List.set_cons_succ]
      refine takeD (i := 22) (d := some 58) (v := ?vT23) rfl rfl (by kernel_rfl) (by kernel_rfl) (by kernel_rfl) (fun _ _ _ h => h) (Or.inl ⟨by rfl, ?hyT23⟩) (by assumption) ?rstT23
      case hyT23 => (intro w hSw; (try dsimp only at hSw); obtain ⟨s0, s1, s2⟩ := hSw; go_simp; (try with_reducible rfl))
      try simp only [Act.put, List.setIfInBounds_toArray, List.set_cons_zero, List.set_cons_succ]
      refine takeD (i := 23) (d := some 59) (v := ?vT24) rfl rfl (by kernel_rfl) (by kernel_rfl) (by kernel_rfl) (fun _ _ _ h => h) (Or.inl ⟨by rfl, ?hyT24⟩) (by assumption) ?rstT24
      case hyT24 => (intro w hSw; (try dsimp only at hSw); obtain ⟨s0, s1, s2⟩ := hSw; go_simp; (try with_reducible rfl))
      try simp only [Act.put, List.setIfInBounds_toArray, List.set_cons_zero, List.set_cons_succ]
      refine takeD (i := 24) (d := some 60) (v := ?vT25) rfl rfl (by kernel_rfl) (by kernel_rfl) (by kernel_rfl) (fun _ _ _ h => h) (Or.inl ⟨by rfl, ?hyT25⟩) (by assumption) ?rstT25
      case hyT25 => (intro w hSw; (try dsimp only at hSw); obtain ⟨s0, s1, s2⟩ := hSw; go_simp; (try with_reducible rfl))
      try simp only [Act.put, List.setIfInBounds_toArray, List.set_cons_zero, List.set_cons_succ]
      refine takeD (i := 25) (d := some 61) (v := ?vT26) rfl rfl (by kernel_rfl) (by kernel_rfl) (by kernel_rfl) (fun _ _ _ h => h) (Or.inl ⟨by rfl, ?hyT26⟩) (by assumption) ?rstT26
      case hyT26 => (intro w hSw; (try dsimp only at hSw); obtain ⟨s0, s1, s2⟩ := hSw; go_simp; (try with_reducible rfl))
      try simp only [Act.put, List.setIfInBounds_toArray, List.set_cons_zero, List.set_cons_succ]
      refine takeD (i := 26) (d := some 62) (v := ?vT27) rfl rfl (by kernel_rfl) (by kernel_rfl) (by kernel_rfl) (fun _ _ _ h => h) (Or.inl ⟨by rfl, ?hyT27⟩) (by assumption) ?rstT27
      case hyT27 => (intro w hSw; (try dsimp only at hSw); obtain ⟨s0, s1, s2⟩ := hSw; go_simp; (try with_reducible rfl))
      try simp only [Act.put, List.setIfInBounds_toArray, List.set_cons_zero, List.set_cons_succ]
      refine takeD (i := 27) (d := some 63) (v := ?vT28) rfl rfl (by kernel_rfl) (by kernel_rfl) (by kernel_rfl) (fun _ _ _ h => h) (Or.inl ⟨by rfl, ?hyT28⟩) (by assumption) ?rstT28
      case hyT28 => (intro w hSw; (try dsimp only at hSw); obtain ⟨s0, s1, s2⟩ := hSw; go_simp; (try with_reducible rfl))
      try simp only [Act.put, List.setIfInBounds_toArray, List.set_cons_zero, List.set_cons_succ]
      refine takeD (i := 28) (d := some 64) (v := ?vT29) rfl rfl (by kernel_rfl) (by kernel_rfl) (by kernel_rfl) (fun _ _ _ h => h) (Or.inl ⟨by rfl, ?hyT29⟩) (by assumption) ?rstT29
      case hyT29 => (intro w hSw; (try dsimp only at hSw); obtain ⟨s0, s1, s2⟩ := hSw; go_simp; (try with_reducible rfl))
      try simp only [Act.put, List.setIfInBounds_toArray, List.set_cons_zero, List.set_cons_succ]
      refine takeD (i := 29) (d := some 65) (v := ?vT30) rfl rfl (by kernel_rfl) (by kernel_rfl) (by kernel_rfl) (fun _ _ _ h => h) (Or.inl ⟨by rfl, ?hyT30⟩) (by assumption) ?rstT30
      case hyT30 => (intro w hSw; (try dsimp only at hSw); obtain ⟨s0, s1, s2⟩ := hSw; go_simp; (try with_reducible rfl))
      try simp only [Act.put, List.setIfInBounds_toArray, List.set_cons_zero, List.set_cons_succ]
      refine wpAnyH_done (by kernel_rfl) ?_ _
      clear hHeld
      go_wp2_with fail
      go_loopw [12] (fun vq w' => ∃ q : Nat, vq = .int .i64 (q : Int) ∧ lo ≤ q ∧ q ≤ hi ∧ Below w5.heap.size w5 w') (fun vq _ => hi - (intOf vq).toNat)
      case atStart => exact ⟨lo, rfl, Nat.le_refl _, HI.out.le, Below.refl _ _⟩
      case round =>
        obtain ⟨q, rfl, hq1, hq2, hbq⟩ := hrel
        have hx6 := (hbq.block _ (Array.getElem?_eq_some_iff.1 hx5).1).trans hx5
        obtain ⟨f0, f1, f2, f3⟩ := box4 hx6
        have hbw := hbt.trans (hbq.mono hst)
        by_cases hqh : q < hi
        · have hcell := HSq.out _ hbw q (by have := HI.out.len; omega)
          obtain ⟨gs, so, r, eas, hrq, cq⟩ := hcell
          have hr10 : (r == 10) = false := beq_eq_false_iff_ne.2 (HI.out.line q hq1 hqh r hrq)
          have hqs : q < m := by have := HI.out.len; have := HI.out.mm; omega
          subst eas
          clear hrq hx6 hbw f0 f2 f3
          go_wp2_with fail
          exact ⟨⟨q + 1, by go_num, by omega, by omega, hbq⟩, by simp [intOf]; omega⟩
        · have hqe : ¬ q < hi := hqh
          by_cases hlast : i + 1 = k
          · obtain ⟨hh, hhm⟩ := HI.out.last hlast
            subst hh
            have y1 : IntKind.i64.wrap ((k : Int) - 1) = (i : Int) := by rw [IntWalk.i64_in _ (by omega)]; omega
            have y2 : ((hi : Int) == (m : Int)) = true := by rw [beq_iff_eq]; have := HI.out.mm; omega
            have y3 : ((i : Int) == (i : Int)) = true := by rw [beq_iff_eq]
            have HE : Hid (Below w.heap.size w wr) := (HB1.out.trans (HB2.out.mono HB1.out.size)).trans ((HB.out.trans (hbw.mono HBs.out)).mono (Nat.le_trans HB1.out.size HB2.out.size))
            clear hlast hhm hx6 hbq hbw
            go_wp2_with fail
            go_ret
            exact ⟨rfl, HE.out⟩
          · have hmid : i + 1 < k := by omega
            have y1 : ((i : Int) == IntKind.i64.wrap ((k : Int) - 1)) = false := by rw [beq_eq_false_iff_ne, IntWalk.i64_in _ (by omega)]; omega
            have hhm : hi < m := by have := HI.out.mid hmid; have := HI.out.mm; omega
            obtain ⟨gs, so, r, eas, hrq, cq⟩ := HSq.out _ hbw hi hhm
            have HE : Hid (Below w2.heap.size w2 wr) := HB.out.trans (hbw.mono HBs.out)
            subst eas
            cases hard with
            | true =>
              have hr10 : r = 10 := by have := HI.out.nl hmid rfl; rw [hrq] at this; exact Option.some.inj this
              subst hr10
              have HN2 : Hid (((hi : Int) + 1) = (posn 0 ((rowsP rs W).take (i + 1)) : Nat)) := by rw [HN.out]; show _ = _; simp
              have y5 : IntKind.i64.wrap ((hi : Int) + 1) = (hi : Int) + 1 := IntWalk.i64_in _ (by omega)
              clear hlast hrq hx6 hbq hbw
              go_wp2_with fail
              exact ⟨⟨i + 1, by go_num, by omega, by rw [HN2.out], HE.out⟩, by simp [intOf]; omega⟩
            | false =>
              obtain ⟨hs1, r', hr', hn10⟩ := HI.out.soft rfl
              obtain rfl : r = r' := by rw [hrq] at hr'; exact Option.some.inj hr'
              have hr10 : (r == 10) = false := beq_eq_false_iff_ne.2 hn10
              have y4 : ((hi : Int) == (lo : Int)) = false := by rw [beq_eq_false_iff_ne]; omega
              have HN2 : Hid ((hi : Int) = (posn 0 ((rowsP rs W).take (i + 1)) : Nat)) := by rw [HN.out]; show _ = _; simp
              clear hlast hrq hx6 hbq hbw hr' hn10
              go_wp2_with fail
              exact ⟨⟨i + 1, by go_num, by omega, by rw [HN2.out], HE.out⟩, by simp [intOf]; omega⟩
    · have z3 : decide ((c : Int) > W) = false := decide_eq_false hcw
      have z5 : decide (W < c) = false := decide_eq_false (by omega)
      clear hwide
      go_wp2_with fail
      try rw [hw3]
      clear hw3
      obtain ⟨Bx, hBx⟩ : ∃ b, wr.heap.size = b := ⟨_, rfl⟩
      have hs4 := hb4.size
      rw [hBx] at a0 a1 a2 a3 b0 b1 b2 b3 hx4 hb4 hs4 HSq ⊢
      have HBs : Hid (w2.heap.size ≤ Bx) := by rw [← hBx]; exact HB.out.size
      clear hBx
      refine wp_region_held_drew (S := (fun v => v.cell? ⟨Bx, 0, none⟩ = some (.int .i64 (lo : Int)) ∧ v.cell? ⟨Bx, 1, none⟩ = some (.int .i64 (hi : Int)) ∧ v.cell? ⟨Bx, 2, none⟩ = some (.int .i64 (c : Int)))) (by kernel_rfl) ?hSZ0 (fun hHeld => ?restZ0)
      case hSZ0 => exact ⟨a0, a1, a2⟩
      rw [hw4] at hHeld ⊢
      clear hw4 a0 a1 a2 a3
      refine takeD (i := 0) (d := some 36) (v := ?vT32) rfl rfl (by kernel_rfl) (by kernel_rfl) (by kernel_rfl) (fun _ _ _ h => h) (Or.inl ⟨by rfl, ?hyT32⟩) (by assumption) ?rstT32
      case hyT32 => (intro w hSw; (try dsimp only at hSw); obtain ⟨s0, s1, s2⟩ := hSw; go_simp; (try with_reducible rfl))
      try simp only [Act.put, List.setIfInBounds_toArray, List.set_cons_zero, List.set_cons_succ]
      refine takeD (i := 1) (d := some 37) (v := ?vT33) rfl rfl (by kernel_rfl) (by kernel_rfl) (by kernel_rfl) (fun _ _ _ h => h) (Or.inl ⟨by rfl, ?hyT33⟩) (by assumption) ?rstT33
      case hyT33 => (intro w hSw; (try dsimp only at hSw); obtain ⟨s0, s1, s2⟩ := hSw; go_simp; (try with_reducible rfl))
      try simp only [Act.put, List.setIfInBounds_toArray, List.set_cons_zero, List.set_cons_succ]
      refine takeD (i := 2) (d := some 38) (v := ?vT34) rfl rfl (by kernel_rfl) (by kernel_rfl) (by kernel_rfl) (fun _ _ _ h => h) (Or.inl ⟨by rfl, ?hyT34⟩) (by assumption) ?rstT34
      case hyT34 => (intro w hSw; (try dsimp only at hSw); obtain ⟨s0, s1, s2⟩ := hSw; go_simp; (try with_reducible rfl))
      try simp only [Act.put, List.setIfInBounds_toArray, List.set_cons_zero, List.set_cons_succ]
      refine takeD (i := 3) (d := some 39) (v := ?vT35) rfl rfl (by kernel_rfl) (by kernel_rfl) (by kernel_rfl) (fun _ _ _ h => h) (Or.inl ⟨by rfl, ?hyT35⟩) (by assumption) ?rstT35
      case hyT35 => (intro w hSw; (try dsimp only at hSw); obtain ⟨s0, s1, s2⟩ := hSw; go_simp; (try with_reducible rfl))
      try simp only [Act.put, List.setIfInBounds_toArray, List.set_cons_zero, List.set_cons_succ]
      refine takeD (i := 4) (d := some 40) (v := ?vT36) rfl rfl (by kernel_rfl) (by kernel_rfl) (by kernel_rfl) (fun _ _ _ h => h) (Or.inl ⟨by rfl, ?hyT36⟩) (by assumption) ?rstT36
      case hyT36 => (intro w hSw; (try dsimp only at hSw); obtain ⟨s0, s1, s2⟩ := hSw; go_simp; (try with_reducible rfl))
      try simp only [Act.put, List.setIfInBounds_toArray, List.set_cons_zero, List.set_cons_succ]
      refine takeD (i := 5) (d := some 41) (v := ?vT37) rfl rfl (by kernel_rfl) (by kernel_rfl) (by kernel_rfl) (fun _ _ _ h => h) (Or.inl ⟨by rfl, ?hyT37⟩) (by assumption) ?rstT37
      case hyT37 => (intro w hSw; (try dsimp only at hSw); obtain ⟨s0, s1, s2⟩ := hSw; go_simp; (try with_reducible rfl))
      try simp only [Act.put, List.setIfInBounds_toArray, List.set_cons_zero, List.set_cons_succ]
      refine takeD (i := 6) (d := some 42) (v := ?vT38) rfl rfl (by kernel_rfl) (by kernel_rfl) (by kernel_rfl) (fun _ _ _ h => h) (Or.inl ⟨by rfl, ?hyT38⟩) (by assumption) ?rstT38
      case hyT38 => (intro w hSw; (try dsimp only at hSw); obtain ⟨s0, s1, s2⟩ := hSw; go_simp; (try with_reducible rfl))
      try simp only [Act.put, List.setIfInBounds_toArray, List.set_cons_zero, List.set_cons_succ]
      refine takeD (i := 7) (d := some 43) (v := ?vT39) rfl rfl (by kernel_rfl) (by kernel_rfl) (by kernel_rfl) (fun _ _ _ h => h) (Or.inl ⟨by rfl, ?hyT39⟩) (by assumption) ?rstT39
      case hyT39 => (intro w hSw; (try dsimp only at hSw); obtain ⟨s0, s1, s2⟩ := hSw; go_simp; (try with_reducible rfl))
      try simp only [Act.put, List.setIfInBounds_toArray, List.set_cons_zero, List.set_cons_succ]
      refine takeD (i := 8) (d := some 44) (v := ?vT40) rfl rfl (by kernel_rfl) (by kernel_rfl) (by kernel_rfl) (fun _ _ _ h => h) (Or.inl ⟨by rfl, ?hyT40⟩) (by assumption) ?rstT40
      case hyT40 => (intro w hSw; (try dsimp only at hSw); obtain ⟨s0, s1, s2⟩ := hSw; go_simp; (try with_reducible rfl))
      try simp only [Act.put, List.setIfInBounds_toArray, List.set_cons_zero, List.set_cons_succ]
      refine takeD (i := 9) (d := some 45) (v := ?vT41) rfl rfl (by kernel_rfl) (by kernel_rfl) (by kernel_rfl) (fun _ _ _ h => h) (Or.inl ⟨by rfl, ?hyT41⟩) (by assumption) ?rstT41
      case hyT41 => (intro w hSw; (try dsimp only at hSw); obtain ⟨s0, s1, s2⟩ := hSw; go_simp; (try with_reducible rfl))
      try simp only [Act.put, List.setIfInBounds_toArray, List.set_cons_zero, List.set_cons_succ]
      refine takeD (i := 10) (d := some 46) (v := ?vT42) rfl rfl (by kernel_rfl) (by kernel_rfl) (by kernel_rfl) (fun _ _ _ h => h) (Or.inl ⟨by rfl, ?hyT42⟩) (by assumption) ?rstT42
      case hyT42 => (intro w hSw; (try dsimp only at hSw); obtain ⟨s0, s1, s2⟩ := hSw; go_simp; (try with_reducible rfl))
      try simp only [Act.put, List.setIfInBounds_toArray, List.set_cons_zero, List.set_cons_succ]
      refine takeD (i := 11) (d := some 47) (v := ?vT43) rfl rfl (by kernel_rfl) (by kernel_rfl) (by kernel_rfl) (fun _ _ _ h => h) (Or.inl ⟨by rfl, ?hyT43⟩) (by assumption) ?rstT43
      case hyT43 => (intro w hSw; (try dsimp only at hSw); obtain ⟨s0, s1, s2⟩ := hSw; go_simp; (try with_reducible rfl))
      try simp only [Act.put, List.setIfInBounds_toArray, List.set_cons_zero, List.set_cons_succ]
      refine takeD (i := 12) (d := some 48) (v := ?vT44) rfl rfl (by kernel_rfl) (by kernel_rfl) (by kernel_rfl) (fun _ _ _ h => h) (Or.inl ⟨by rfl, ?hyT44⟩) (by assumption) ?rstT44
      case hyT44 => (intro w hSw; (try dsimp only at hSw); obtain ⟨s0, s1, s2⟩ := hSw; go_simp; (try with_reducible rfl))
      try simp only [Act.put, List.setIfInBounds_toArray, List.set_cons_zero, List.set_cons_succ]
      refine wpAnyH_ready (rs := [13]) (by kernel_rfl) (by simp) ?_
      refine AllReadyH.cons rfl (fun K hK => ?_) AllReadyH.nil
      go_simp
      refine HCo.mono ?_
      rintro e w5 ⟨rfl, hb5⟩
      clear HCo
      have hx5 := (hb5.block _ (Array.getElem?_eq_some_iff.1 hx4).1).trans hx4
      obtain ⟨e0, e1, e2, e3⟩ := box4 hx5
      have hbt := hb4.trans (hb5.mono hs4)
      have hst := Nat.le_trans hs4 hb5.size
      clear hb4 hb5 hx4 b0 b1 b2 b3
      dsimp only
      clear hHeld
      refine hK.out _ _ ?hS31 (fun hHeld => ?rest31)
      case hS31 => exact ⟨e0, e1, e2⟩
      clear hK K
      try simp only [Act.put, List.setIfInBounds_toArray, List.set_cons_zero, List.set_cons_succ]
      refine takeD (i := 14) (d := some 50) (v := ?vT45) rfl rfl (by kernel_rfl) (by kernel_rfl) (by kernel_rfl) (fun _ _ _ h => h) (Or.inl ⟨by rfl, ?hyT45⟩) (by assumption) ?rstT45
      case hyT45 => (intro w hSw; (try dsimp only at hSw); obtain ⟨s0, s1, s2⟩ := hSw; go_simp; (try with_reducible rfl))
      try simp only [Act.put, List.setIfInBounds_toArray, List.set_cons_zero, List.set_cons_succ]
      refine takeD (i := 15) (d := some 51) (v := ?vT46) rfl rfl (by kernel_rfl) (by kernel_rfl) (by kernel_rfl) (fun _ _ _ h => h) (Or.inl ⟨by rfl, ?hyT46⟩) (by assumption) ?rstT46
      case hyT46 => (intro w hSw; (try dsimp only at hSw); obtain ⟨s0, s1, s2⟩ := hSw; go_simp; (try with_reducible rfl))
      try simp only [Act.put, List.setIfInBounds_toArray, List.set_cons_zero, List.set_cons_succ]
      refine takeD (i := 16) (d := some 52) (v := ?vT47) rfl rfl (by kernel_rfl) (by kernel_rfl) (by kernel_rfl) (fun _ _ _ h => h) (Or.inl ⟨by rfl, ?hyT47⟩) (by assumption) ?rstT47
      case hyT47 => (intro w hSw; (try dsimp only at hSw); obtain ⟨s0, s1, s2⟩ := hSw; go_simp; (try with_reducible rfl))
      try simp only [Act.put, List.setIfInBounds_toArray, List.set_cons_zero, List.set_cons_succ]
      refine takeD (i := 17) (d := some 53) (v := ?vT48) rfl rfl (by kernel_rfl) (by kernel_rfl) (by kernel_rfl) (fun _ _ _ h => h) (Or.inl ⟨by rfl, ?hyT48⟩) (by assumption) ?rstT48
      case hyT48 => (intro w hSw; (try dsimp only at hSw); obtain ⟨s0, s1, s2⟩ := hSw; go_simp; (try with_reducible rfl))
      try simp only [Act.put, List.setIfInBounds_toArray, List.set_cons_zero, List.set_cons_succ]
      refine takeD (i := 18) (d := some 54) (v := ?vT49) rfl rfl (by kernel_rfl) (by kernel_rfl) (by kernel_rfl) (fun _ _ _ h => h) (Or.inl ⟨by rfl, ?hyT49⟩) (by assumption) ?rstT49
      case hyT49 => (intro w hSw; (try dsimp only at hSw); obtain ⟨s0, s1, s2⟩ := hSw; go_simp; (try with_reducible rfl))
      try simp only [Act.put, List.setIfInBounds_toArray, List.set_cons_zero, List.set_cons_succ]
      refine takeD (i := 19) (d := some 55) (v := ?vT50) rfl rfl (by kernel_rfl) (by kernel_rfl) (by kernel_rfl) (fun _ _ _ h => h) (Or.inl ⟨by rfl, ?hyT50⟩) (by assumption) ?rstT50
      case hyT50 => (intro w hSw; (try dsimp only at hSw); obtain ⟨s0, s1, s2⟩ := hSw; go_simp; (try with_reducible rfl))
      try simp only [Act.put, List.setIfInBounds_toArray, List.set_cons_zero, List.set_cons_succ]
      refine takeD (i := 20) (d := some 56) (v := ?vT51) rfl rfl (by kernel_rfl) (by kernel_rfl) (by kernel_rfl) (fun _ _ _ h => h) (Or.inl ⟨by rfl, ?hyT51⟩) (by assumption) ?rstT51
      case hyT51 => (intro w hSw; (try dsimp only at hSw); obtain ⟨s0, s1, s2⟩ := hSw; go_simp; (try with_reducible rfl))
      try simp only [Act.put, List.setIfInBounds_toArray, List.set_cons_zero, List.set_cons_succ]
      refine takeD (i := 21) (d := some 57) (v := ?vT52) rfl rfl (by kernel_rfl) (by kernel_rfl) (by kernel_rfl) (fun _ _ _ h => h) (Or.inl ⟨by rfl, ?hyT52⟩) (by assumption) ?rstT52
      case hyT52 => (intro w hSw; (try dsimp only at hSw); obtain ⟨s0, s1, s2⟩ := hSw; go_simp; (try with_reducible rfl))
      try simp only [Act.put, List.setIfInBounds_toArray, List.set_cons_zero, List.set_cons_succ]
      refine takeD (i := 22) (d := some 58) (v := undef) rfl rfl (by kernel_rfl) (by kernel_rfl) (by kernel_rfl) (fun _ _ _ h => h) (Or.inr ⟨by rfl, rfl⟩) (by assumption) ?_
      try simp only [Act.put, List.setIfInBounds_toArray, List.set_cons_zero, List.set_cons_succ]
      refine takeD (i := 23) (d := some 59) (v := undef) rfl rfl (by kernel_rfl) (by kernel_rfl) (by kernel_rfl) (fun _ _ _ h => h) (Or.inr ⟨by rfl, rfl⟩) (by assumption) ?_
      try simp only [Act.put, List.setIfInBounds_toArray, List.set_cons_zero, List.set_cons_succ]
      refine takeD (i := 24) (d := some 60) (v := undef) rfl rfl (by kernel_rfl) (by kernel_rfl) (by kernel_rfl) (fun _ _ _ h => h) (Or.inr ⟨by rfl, rfl⟩) (by assumption) ?_
      try simp only [Act.put, List.setIfInBounds_toArray, List.set_cons_zero, List.set_cons_succ]
      refine takeD (i := 25) (d := some 61) (v := undef) rfl rfl (by kernel_rfl) (by kernel_rfl) (by kernel_rfl) (fun _ _ _ h => h) (Or.inr ⟨by rfl, rfl⟩) (by assumption) ?_
      try simp only [Act.put, List.setIfInBounds_toArray, List.set_cons_zero, List.set_cons_succ]
      refine takeD (i := 26) (d := some 62) (v := undef) rfl rfl (by kernel_rfl) (by kernel_rfl) (by kernel_rfl) (fun _ _ _ h => h) (Or.inr ⟨by rfl, rfl⟩) (by assumption) ?_
      try simp only [Act.put, List.setIfInBounds_toArray, List.set_cons_zero, List.set_cons_succ]
      refine takeD (i := 27) (d := some 63) (v := undef) rfl rfl (by kernel_rfl) (by kernel_rfl) (by kernel_rfl) (fun _ _ _ h => h) (Or.inr ⟨by rfl, rfl⟩) (by assumption) ?_
      try simp only [Act.put, List.setIfInBounds_toArray, List.set_cons_zero, List.set_cons_succ]
      refine takeD (i := 28) (d := some 64) (v := ?vT53) rfl rfl (by kernel_rfl) (by kernel_rfl) (by kernel_rfl) (fun _ _ _ h => h) (Or.inl ⟨by rfl, ?hyT53⟩) (by assumption) ?rstT53
      case hyT53 => (intro w hSw; (try dsimp only at hSw); obtain ⟨s0, s1, s2⟩ := hSw; go_simp; (try with_reducible rfl))
      try simp only [Act.put, List.setIfInBounds_toArray, List.set_cons_zero, List.set_cons_succ]
      refine takeD (i := 29) (d := some 65) (v := ?vT54) rfl rfl (by kernel_rfl) (by kernel_rfl) (by kernel_rfl) (fun _ _ _ h => h) (Or.inl ⟨by rfl, ?hyT54⟩) (by assumption) ?rstT54
      case hyT54 => (intro w hSw; (try dsimp only at hSw); obtain ⟨s0, s1, s2⟩ := hSw; go_simp; (try with_reducible rfl))
      try simp only [Act.put, List.setIfInBounds_toArray, List.set_cons_zero, List.set_cons_succ]
      refine wpAnyH_done (by kernel_rfl) ?_ _
      clear hHeld
      go_wp2_with fail
      go_loopw [12] (fun vq w' => ∃ q : Nat, vq = .int .i64 (q : Int) ∧ lo ≤ q ∧ q ≤ hi ∧ Below w5.heap.size w5 w') (fun vq _ => hi - (intOf vq).toNat)
      case atStart => exact ⟨lo, rfl, Nat.le_refl _, HI.out.le, Below.refl _ _⟩
      case round =>
        obtain ⟨q, rfl, hq1, hq2, hbq⟩ := hrel
        have hx6 := (hbq.block _ (Array.getElem?_eq_some_iff.1 hx5).1).trans hx5
        obtain ⟨f0, f1, f2, f3⟩ := box4 hx6
        have hbw := hbt.trans (hbq.mono hst)
        by_cases hqh : q < hi
        · have hcell := HSq.out _ hbw q (by have := HI.out.len; omega)
          obtain ⟨gs, so, r, eas, hrq, cq⟩ := hcell
          have hr10 : (r == 10) = false := beq_eq_false_iff_ne.2 (HI.out.line q hq1 hqh r hrq)
          have hqs : q < m := by have := HI.out.len; have := HI.out.mm; omega
          subst eas
          clear hrq hx6 hbw f0 f2 f3
          go_wp2_with fail
          exact ⟨⟨q + 1, by go_num, by omega, by omega, hbq⟩, by simp [intOf]; omega⟩
        · have hqe : ¬ q < hi := hqh
          by_cases hlast : i + 1 = k
          · obtain ⟨hh, hhm⟩ := HI.out.last hlast
            subst hh
            have y1 : IntKind.i64.wrap ((k : Int) - 1) = (i : Int) := by rw [IntWalk.i64_in _ (by omega)]; omega
            have y2 : ((hi : Int) == (m : Int)) = true := by rw [beq_iff_eq]; have := HI.out.mm; omega
            have y3 : ((i : Int) == (i : Int)) = true := by rw [beq_iff_eq]
            have HE : Hid (Below w.heap.size w wr) := (HB1.out.trans (HB2.out.mono HB1.out.size)).trans ((HB.out.trans (hbw.mono HBs.out)).mono (Nat.le_trans HB1.out.size HB2.out.size))
            clear hlast hhm hx6 hbq hbw
            go_wp2_with fail
            go_ret
            exact ⟨rfl, HE.out⟩
          · have hmid : i + 1 < k := by omega
            have y1 : ((i : Int) == IntKind.i64.wrap ((k : Int) - 1)) = false := by rw [beq_eq_false_iff_ne, IntWalk.i64_in _ (by omega)]; omega
            have hhm : hi < m := by have := HI.out.mid hmid; have := HI.out.mm; omega
            obtain ⟨gs, so, r, eas, hrq, cq⟩ := HSq.out _ hbw hi hhm
            have HE : Hid (Below w2.heap.size w2 wr) := HB.out.trans (hbw.mono HBs.out)
            subst eas
            cases hard with
            | true =>
              have hr10 : r = 10 := by have := HI.out.nl hmid rfl; rw [hrq] at this; exact Option.some.inj this
              subst hr10
              have HN2 : Hid (((hi : Int) + 1) = (posn 0 ((rowsP rs W).take (i + 1)) : Nat)) := by rw [HN.out]; show _ = _; simp
              have y5 : IntKind.i64.wrap ((hi : Int) + 1) = (hi : Int) + 1 := IntWalk.i64_in _ (by omega)
              clear hlast hrq hx6 hbq hbw
              go_wp2_with fail
              exact ⟨⟨i + 1, by go_num, by omega, by rw [HN2.out], HE.out⟩, by simp [intOf]; omega⟩
            | false =>
              obtain ⟨hs1, r', hr', hn10⟩ := HI.out.soft rfl
              obtain rfl : r = r' := by rw [hrq] at hr'; exact Option.some.inj hr'
              have hr10 : (r == 10) = false := beq_eq_false_iff_ne.2 hn10
              have y4 : ((hi : Int) == (lo : Int)) = false := by rw [beq_eq_false_iff_ne]; omega
              have HN2 : Hid ((hi : Int) = (posn 0 ((rowsP rs W).take (i + 1)) : Nat)) := by rw [HN.out]; show _ = _; simp
              clear hlast hrq hx6 hbq hbw hr' hn10
              go_wp2_with fail
              exact ⟨⟨i + 1, by go_num, by omega, by rw [HN2.out], HE.out⟩, by simp [intOf]; omega⟩

end Go.Proofs.YtaphkaodcdpcaaaDoor
