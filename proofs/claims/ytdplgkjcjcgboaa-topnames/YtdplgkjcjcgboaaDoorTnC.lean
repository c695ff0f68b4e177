import Derived.Test.YtdplgkjcjcgboaaDoorTnB
import Derived.Test.YtdplgkjcjcgboaaDoorIto
import Derived.Deep.RegionHeld3
/-! What the errors print. -/
namespace Go.Proofs.YtdplgkjcjcgboaaDoor
open Go.RowKit Go.Lib Go.Sort Go.Shelf
set_option maxRecDepth 100000

/-- wpAnyH_take, the slot written out. -/
theorem takeD {P : Program} {md : Region.Mode} {ops : Array Oper} {Q : Exit → Act → World → Prop} {S : World → Prop} {i : Nat} {oi : Oper} {d : Option Nat} {v : Value} {fuel : Nat} {listed : Array Bool} {a : Act} {w : World} (hi : ops[i]? = some oi) (hd : oi.dst = d)
    (hs : Region.noSelect ops = true) (hf : Region.free md ops listed i = true) (hr : (Region.ready md ops listed).contains i = true)
    (hQ : ∀ c a w, Q (.panic c) (a.put oi.dst v) w → Q (.panic c) a w) (hy : YieldsIf P ops S oi v a) (hS : S w)
    (h : wpAnyH P md ops Q S fuel (listed.setIfInBounds i true) (a.put d v) w) : wpAnyH P md ops Q S (fuel + 1) listed a w := by
  subst hd
  exact wpAnyH_take hi hs hf hr hQ hy hS h

def powCells : Array Value := (Lib.pow10Tab.map fun z => Value.int .u64 z).toArray
/-- The table of powers lies where it lies. -/
structure Pow (w : World) : Prop where
  lies : ∃ t fr, w.heap[1]? = some (.cells powCells t fr)
theorem Pow.below {w w' : World} (h : Pow w) (hb : Below w.heap.size w w') : Pow w' := by
  obtain ⟨t, fr, hg⟩ := h.lies
  exact ⟨t, fr, (hb.block _ (Array.getElem?_eq_some_iff.1 hg).1).trans hg⟩
theorem gPow : Tryd.prog.globalNamed "internal/strconv.uint64pow10" = some 1 := by kernel_rfl
theorem itoa_any (n : Int) (h0 : -9223372036854775808 ≤ n) (h1 : n ≤ 9223372036854775807) (w : World) (hp : Pow w) :
    Calls Tryd.prog 16 #[.int .i64 n] w fun e w' => e = .returned (.string ⟨(Lib.itoa n).toArray⟩) ∧ Below w.heap.size w w' := by
  obtain ⟨t, fr, hg⟩ := hp.lies
  refine Calls.mono (Any.strconv_Itoa Tryd.lays171 n h0 h1 w ?_) ?_
  · unfold Lib.TabIs World.var?
    rw [gPow]
    simp only [Option.bind_some, hg]
    rfl
  · rintro e w' ⟨rfl, k, os, rfl⟩
    refine ⟨rfl, rfl, rfl, rfl, ?_, fun j hj => ?_⟩
    · show w.heap.size ≤ (w.heap ++ os).size
      rw [Array.size_append]; omega
    · show (w.heap ++ os)[j]? = _
      rw [Array.getElem?_append_left hj]
theorem methodErrorE (h : Value) (w : World) : (Go.method 207 24 h "Error").run Tryd.prog w = .ok (12, h) w := by kernel_rfl
theorem methodErrorF (h : Value) (w : World) : (Go.method 207 23 h "Error").run Tryd.prog w = .ok (13, h) w := by kernel_rfl
theorem errno_bytes : (⟨#[114, 101, 100, 114, 97, 102, 116, 58, 32, 101, 114, 114, 111, 114, 32]⟩ ++ ⟨#[49, 50]⟩ : ByteArray) = ⟨#[114, 101, 100, 114, 97, 102, 116, 58, 32, 101, 114, 114, 111, 114, 32, 49, 50]⟩ := by decide +kernel
theorem errno12 {w : World} (hp : Pow w) : Calls Tryd.prog 12 #[.int .i64 12] w fun e w' => e = .returned (.string ⟨#[114, 101, 100, 114, 97, 102, 116, 58, 32, 101, 114, 114, 111, 114, 32, 49, 50]⟩) ∧ Below w.heap.size w w' := by
  have HI := itoa_any 12 (by decide) (by decide) w hp
  rw [show (Lib.itoa 12).toArray = #[49, 50] from by decide +kernel] at HI
  have hbs := errno_bytes
  go_enter Tryd.func12, Tryd.ntmps12
  go_wp2_with fail
  refine HI.mono ?_
  rintro e w1 ⟨rfl, hb⟩
  go_wp2_with fail
  try rw [hbs]
  go_ret
  exact ⟨by first | rfl | rw [hbs], hb⟩

theorem fault7_bytes : ((((⟨#[84, 97, 107, 101]⟩ ++ ⟨#[32, 97, 116, 32]⟩) ++ ⟨#[55]⟩) ++ ⟨#[58, 32]⟩) ++ ⟨#[114, 101, 100, 114, 97, 102, 116, 58, 32, 101, 114, 114, 111, 114, 32, 49, 50]⟩ : ByteArray) = ⟨#[84, 97, 107, 101, 32, 97, 116, 32, 55, 58, 32, 114, 101, 100, 114, 97, 102, 116, 58, 32, 101, 114, 114, 111, 114, 32, 49, 50]⟩ := by decide +kernel
set_option maxHeartbeats 2000000 in
theorem fault7 {p : Nat} {w : World} (h : w.heap[p]? = some (.cells #[.string ⟨#[84, 97, 107, 101]⟩, .int .i64 (7), .iface 24 (.int .i64 12)] 28)) (hp : Pow w) :
    Calls Tryd.prog 13 #[.pointer (some ⟨p, 0, none⟩)] w fun e w' => e = .returned (.string ⟨#[84, 97, 107, 101, 32, 97, 116, 32, 55, 58, 32, 114, 101, 100, 114, 97, 102, 116, 58, 32, 101, 114, 114, 111, 114, 32, 49, 50]⟩) ∧ Below w.heap.size w w' := by
  have c0 : w.cell? ⟨p, 0, none⟩ = some (.string ⟨#[84, 97, 107, 101]⟩) := by rw [Lib.cell_of_heap h]; rfl
  have c1 : w.cell? ⟨p, 1, none⟩ = some (.int .i64 (7)) := by rw [Lib.cell_of_heap h]; rfl
  have c2 : w.cell? ⟨p, 2, none⟩ = some (.iface 24 (.int .i64 12)) := by rw [Lib.cell_of_heap h]; rfl
  have lp := (Array.getElem?_eq_some_iff.1 h).1
  have HI : Hid (∀ W, Below w.heap.size w W → Calls Tryd.prog 16 #[.int .i64 (7)] W fun e w' => e = .returned (.string ⟨#[55]⟩) ∧ Below W.heap.size W w') := fun W hb => by
    have hh := itoa_any (7) (by decide) (by decide) W (hp.below hb)
    rw [show (Lib.itoa (7)).toArray = #[55] from by decide +kernel] at hh
    exact hh
  have HN : Hid (∀ W, Below w.heap.size w W → Calls Tryd.prog 12 #[.int .i64 12] W fun e w' => e = .returned (.string ⟨#[114, 101, 100, 114, 97, 102, 116, 58, 32, 101, 114, 114, 111, 114, 32, 49, 50]⟩) ∧ Below W.heap.size W w') := fun W hb => errno12 (hp.below hb)
  have mE := methodErrorE
  have hcur : Below w.heap.size w w := Below.refl _ _
  have hbs := fault7_bytes
  clear h hp
  go_enter Tryd.func13, Tryd.ntmps13
  go_wp2_with fail
  refine wp_region_held_drew (S := (fun W => ∀ p : Addr, p.block < w.heap.size → W.cell? p = w.cell? p)) (by kernel_rfl) ?hS1 (fun hHeld => ?rest1)
  case hS1 => (intro p hp; refine Below.cell (B := w.heap.size) ?_ hp; (repeat (first | with_reducible exact hcur | (with_reducible refine Below.drew ?_))))
  refine takeD (i := 0) (d := some 3) (v := ?vT2) rfl rfl (by kernel_rfl) (by kernel_rfl) (by kernel_rfl) (fun _ _ _ h => h) (Or.inl ⟨by rfl, ?hyT2⟩) (by assumption) ?rstT2
  case hyT2 => (intro w hSw; (try dsimp only at hSw); go_simp; (try with_reducible rfl))
  try simp only [Act.put, List.setIfInBounds_toArray, List.set_cons_zero, List.set_cons_succ]
  refine takeD (i := 1) (d := some 4) (v := ?vT3) rfl rfl (by kernel_rfl) (by kernel_rfl) (by kernel_rfl) (fun _ _ _ h => h) (Or.inl ⟨by rfl, ?hyT3⟩) (by assumption) ?rstT3
  case hyT3 => (intro w hSw; (try dsimp only at hSw); go_simp; (try with_reducible rfl))
  try simp only [Act.put, List.setIfInBounds_toArray, List.set_cons_zero, List.set_cons_succ]
  refine takeD (i := 2) (d := some 5) (v := ?vT4) rfl rfl (by kernel_rfl) (by kernel_rfl) (by kernel_rfl) (fun _ _ _ h => h) (Or.inl ⟨by rfl, ?hyT4⟩) (by assumption) ?rstT4
  case hyT4 => (intro w hSw; (try dsimp only at hSw); go_simp; (try with_reducible rfl))
  try simp only [Act.put, List.setIfInBounds_toArray, List.set_cons_zero, List.set_cons_succ]
  refine takeD (i := 3) (d := some 6) (v := ?vT5) rfl rfl (by kernel_rfl) (by kernel_rfl) (by kernel_rfl) (fun _ _ _ h => h) (Or.inl ⟨by rfl, ?hyT5⟩) (by assumption) ?rstT5
  case hyT5 => (intro w hSw; (try dsimp only at hSw); go_simp; (try with_reducible rfl))
  try simp only [Act.put, List.setIfInBounds_toArray, List.set_cons_zero, List.set_cons_succ]
  refine takeD (i := 4) (d := some 7) (v := ?vT6) rfl rfl (by kernel_rfl) (by kernel_rfl) (by kernel_rfl) (fun _ _ _ h => h) (Or.inl ⟨by rfl, ?hyT6⟩) (by assumption) ?rstT6
  case hyT6 => (intro w hSw; (try dsimp only at hSw); go_simp; (try with_reducible rfl))
  try simp only [Act.put, List.setIfInBounds_toArray, List.set_cons_zero, List.set_cons_succ]
  refine takeD (i := 5) (d := some 8) (v := ?vT7) rfl rfl (by kernel_rfl) (by kernel_rfl) (by kernel_rfl) (fun _ _ _ h => h) (Or.inl ⟨by rfl, ?hyT7⟩) (by assumption) ?rstT7
  case hyT7 => (intro w hSw; (try dsimp only at hSw); go_simp; (try with_reducible rfl))
  try simp only [Act.put, List.setIfInBounds_toArray, List.set_cons_zero, List.set_cons_succ]
  refine takeD (i := 6) (d := some 9) (v := ?vT8) rfl rfl (by kernel_rfl) (by kernel_rfl) (by kernel_rfl) (fun _ _ _ h => h) (Or.inl ⟨by rfl, ?hyT8⟩) (by assumption) ?rstT8
  case hyT8 => (intro w hSw; (try dsimp only at hSw); go_simp; (try with_reducible rfl))
  try simp only [Act.put, List.setIfInBounds_toArray, List.set_cons_zero, List.set_cons_succ]
  refine takeD (i := 7) (d := some 10) (v := ?vT9) rfl rfl (by kernel_rfl) (by kernel_rfl) (by kernel_rfl) (fun _ _ _ h => h) (Or.inl ⟨by rfl, ?hyT9⟩) (by assumption) ?rstT9
  case hyT9 => (intro w hSw; (try dsimp only at hSw); go_simp; (try with_reducible rfl))
  try simp only [Act.put, List.setIfInBounds_toArray, List.set_cons_zero, List.set_cons_succ]
  refine takeD (i := 8) (d := some 11) (v := ?vT10) rfl rfl (by kernel_rfl) (by kernel_rfl) (by kernel_rfl) (fun _ _ _ h => h) (Or.inl ⟨by rfl, ?hyT10⟩) (by assumption) ?rstT10
  case hyT10 => (intro w hSw; (try dsimp only at hSw); go_simp; (try with_reducible rfl))
  try simp only [Act.put, List.setIfInBounds_toArray, List.set_cons_zero, List.set_cons_succ]
  refine takeD (i := 12) (d := some 15) (v := ?vT11) rfl rfl (by kernel_rfl) (by kernel_rfl) (by kernel_rfl) (fun _ _ _ h => h) (Or.inl ⟨by rfl, ?hyT11⟩) (by assumption) ?rstT11
  case hyT11 => (intro w hSw; (try dsimp only at hSw); go_simp; (try with_reducible rfl))
  try simp only [Act.put, List.setIfInBounds_toArray, List.set_cons_zero, List.set_cons_succ]
  refine takeD (i := 13) (d := some 16) (v := ?vT12) rfl rfl (by kernel_rfl) (by kernel_rfl) (by kernel_rfl) (fun _ _ _ h => h) (Or.inl ⟨by rfl, ?hyT12⟩) (by assumption) ?rstT12
  case hyT12 => (intro w hSw; (try dsimp only at hSw); go_simp; (try with_reducible rfl))
  try simp only [Act.put, List.setIfInBounds_toArray, List.set_cons_zero, List.set_cons_succ]
  refine takeD (i := 14) (d := some 17) (v := ?vT13) rfl rfl (by kernel_rfl) (by kernel_rfl) (by kernel_rfl) (fun _ _ _ h => h) (Or.inl ⟨by rfl, ?hyT13⟩) (by assumption) ?rstT13
  case hyT13 => (intro w hSw; (try dsimp only at hSw); go_simp; (try with_reducible rfl))
  try simp only [Act.put, List.setIfInBounds_toArray, List.set_cons_zero, List.set_cons_succ]
  refine takeD (i := 15) (d := some 18) (v := ?vT14) rfl rfl (by kernel_rfl) (by kernel_rfl) (by kernel_rfl) (fun _ _ _ h => h) (Or.inl ⟨by rfl, ?hyT14⟩) (by assumption) ?rstT14
  case hyT14 => (intro w hSw; (try dsimp only at hSw); go_simp; (try with_reducible rfl))
  try simp only [Act.put, List.setIfInBounds_toArray, List.set_cons_zero, List.set_cons_succ]
  refine wpAnyH_ready (rs := [9]) (by kernel_rfl) (by simp) ?_
  refine AllReadyH.cons rfl (fun K hK => ?_) AllReadyH.nil
  go_simp
  refine (HI.out _ ?_).mono ?_
  · first | exact hcur | exact hcur.drew
  rintro e2 w1 ⟨rfl, hb2⟩
  have hcur2 : Below w.heap.size w w1 := by first | exact hcur.trans (hb2.mono hcur.size) | exact hcur.drew.trans (hb2.mono hcur.drew.size)
  clear hcur hb2
  have hcur := hcur2
  clear hcur2
  clear hHeld
  refine hK.out _ _ ?hS15 (fun hHeld => ?rest15)
  case hS15 => (intro p hp; refine Below.cell (B := w.heap.size) ?_ hp; (repeat (first | with_reducible exact hcur | (with_reducible refine Below.drew ?_))))
  clear hK K
  try simp only [Act.put, List.setIfInBounds_toArray, List.set_cons_zero, List.set_cons_succ]
  refine takeD (i := 10) (d := some 13) (v := ?vT16) rfl rfl (by kernel_rfl) (by kernel_rfl) (by kernel_rfl) (fun _ _ _ h => h) (Or.inl ⟨by rfl, ?hyT16⟩) (by assumption) ?rstT16
  case hyT16 => (intro w hSw; (try dsimp only at hSw); go_simp; (try with_reducible rfl))
  try simp only [Act.put, List.setIfInBounds_toArray, List.set_cons_zero, List.set_cons_succ]
  refine takeD (i := 11) (d := some 14) (v := ?vT17) rfl rfl (by kernel_rfl) (by kernel_rfl) (by kernel_rfl) (fun _ _ _ h => h) (Or.inl ⟨by rfl, ?hyT17⟩) (by assumption) ?rstT17
  case hyT17 => (intro w hSw; (try dsimp only at hSw); go_simp; (try with_reducible rfl))
  try simp only [Act.put, List.setIfInBounds_toArray, List.set_cons_zero, List.set_cons_succ]
  refine wpAnyH_ready (rs := [16]) (by kernel_rfl) (by simp) ?_
  refine AllReadyH.cons rfl (fun K hK => ?_) AllReadyH.nil
  go_simp
  refine (HN.out _ ?_).mono ?_
  · first | exact hcur | exact hcur.drew
  rintro e2 w2 ⟨rfl, hb2⟩
  have hcur2 : Below w.heap.size w w2 := by first | exact hcur.trans (hb2.mono hcur.size) | exact hcur.drew.trans (hb2.mono hcur.drew.size)
  clear hcur hb2
  have hcur := hcur2
  clear hcur2
  clear hHeld
  refine hK.out _ _ ?hS18 (fun hHeld => ?rest18)
  case hS18 => (intro p hp; refine Below.cell (B := w.heap.size) ?_ hp; (repeat (first | with_reducible exact hcur | (with_reducible refine Below.drew ?_))))
  clear hK K
  try simp only [Act.put, List.setIfInBounds_toArray, List.set_cons_zero, List.set_cons_succ]
  refine takeD (i := 17) (d := some 20) (v := ?vT19) rfl rfl (by kernel_rfl) (by kernel_rfl) (by kernel_rfl) (fun _ _ _ h => h) (Or.inl ⟨by rfl, ?hyT19⟩) (by assumption) ?rstT19
  case hyT19 => (intro w hSw; (try dsimp only at hSw); go_simp; (try with_reducible rfl))
  try simp only [Act.put, List.setIfInBounds_toArray, List.set_cons_zero, List.set_cons_succ]
  refine takeD (i := 18) (d := some 2) (v := ?vT20) rfl rfl (by kernel_rfl) (by kernel_rfl) (by kernel_rfl) (fun _ _ _ h => h) (Or.inl ⟨by rfl, ?hyT20⟩) (by assumption) ?rstT20
  case hyT20 => (intro w hSw; (try dsimp only at hSw); go_simp; (try with_reducible rfl))
  try simp only [Act.put, List.setIfInBounds_toArray, List.set_cons_zero, List.set_cons_succ]
  refine wpAnyH_done (by kernel_rfl) ?_ _
  go_wp2_with fail
  try rw [hbs]
  go_ret
  exact ⟨by first | rfl | rw [hbs], hcur⟩

theorem faultM_bytes : ((((⟨#[80, 117, 116]⟩ ++ ⟨#[32, 97, 116, 32]⟩) ++ ⟨#[45, 49]⟩) ++ ⟨#[58, 32]⟩) ++ ⟨#[84, 97, 107, 101, 32, 97, 116, 32, 55, 58, 32, 114, 101, 100, 114, 97, 102, 116, 58, 32, 101, 114, 114, 111, 114, 32, 49, 50]⟩ : ByteArray) = ⟨#[80, 117, 116, 32, 97, 116, 32, 45, 49, 58, 32, 84, 97, 107, 101, 32, 97, 116, 32, 55, 58, 32, 114, 101, 100, 114, 97, 102, 116, 58, 32, 101, 114, 114, 111, 114, 32, 49, 50]⟩ := by decide +kernel
set_option maxHeartbeats 2000000 in
theorem faultM {p p2 : Nat} {w : World} (h : w.heap[p]? = some (.cells #[.string ⟨#[80, 117, 116]⟩, .int .i64 (-1), .iface 23 (.pointer (some ⟨p2, 0, none⟩))] 28)) (h2 : w.heap[p2]? = some (.cells #[.string ⟨#[84, 97, 107, 101]⟩, .int .i64 7, .iface 24 (.int .i64 12)] 28)) (hp : Pow w) :
    Calls Tryd.prog 13 #[.pointer (some ⟨p, 0, none⟩)] w fun e w' => e = .returned (.string ⟨#[80, 117, 116, 32, 97, 116, 32, 45, 49, 58, 32, 84, 97, 107, 101, 32, 97, 116, 32, 55, 58, 32, 114, 101, 100, 114, 97, 102, 116, 58, 32, 101, 114, 114, 111, 114, 32, 49, 50]⟩) ∧ Below w.heap.size w w' := by
  have c0 : w.cell? ⟨p, 0, none⟩ = some (.string ⟨#[80, 117, 116]⟩) := by rw [Lib.cell_of_heap h]; rfl
  have c1 : w.cell? ⟨p, 1, none⟩ = some (.int .i64 (-1)) := by rw [Lib.cell_of_heap h]; rfl
  have c2 : w.cell? ⟨p, 2, none⟩ = some (.iface 23 (.pointer (some ⟨p2, 0, none⟩))) := by rw [Lib.cell_of_heap h]; rfl
  have lp := (Array.getElem?_eq_some_iff.1 h).1
  have HI : Hid (∀ W, Below w.heap.size w W → Calls Tryd.prog 16 #[.int .i64 (-1)] W fun e w' => e = .returned (.string ⟨#[45, 49]⟩) ∧ Below W.heap.size W w') := fun W hb => by
    have hh := itoa_any (-1) (by decide) (by decide) W (hp.below hb)
    rw [show (Lib.itoa (-1)).toArray = #[45, 49] from by decide +kernel] at hh
    exact hh
  have HN : Hid (∀ W, Below w.heap.size w W → Calls Tryd.prog 13 #[.pointer (some ⟨p2, 0, none⟩)] W fun e w' => e = .returned (.string ⟨#[84, 97, 107, 101, 32, 97, 116, 32, 55, 58, 32, 114, 101, 100, 114, 97, 102, 116, 58, 32, 101, 114, 114, 111, 114, 32, 49, 50]⟩) ∧ Below W.heap.size W w') := fun W hb => fault7 ((hb.block _ (Array.getElem?_eq_some_iff.1 h2).1).trans h2) (hp.below hb)
  have mE := methodErrorF
  have hcur : Below w.heap.size w w := Below.refl _ _
  have hbs := faultM_bytes
  clear h hp h2
  go_enter Tryd.func13, Tryd.ntmps13
  go_wp2_with fail
  refine wp_region_held_drew (S := (fun W => ∀ p : Addr, p.block < w.heap.size → W.cell? p = w.cell? p)) (by kernel_rfl) ?hS21 (fun hHeld => ?rest21)
  case hS21 => (intro p hp; refine Below.cell (B := w.heap.size) ?_ hp; (repeat (first | with_reducible exact hcur | (with_reducible refine Below.drew ?_))))
  refine takeD (i := 0) (d := some 3) (v := ?vT22) rfl rfl (by kernel_rfl) (by kernel_rfl) (by kernel_rfl) (fun _ _ _ h => h) (Or.inl ⟨by rfl, ?hyT22⟩) (by assumption) ?rstT22
  case hyT22 => (intro w hSw; (try dsimp only at hSw); go_simp; (try with_reducible rfl))
  try simp only [Act.put, List.setIfInBounds_toArray, List.set_cons_zero, List.set_cons_succ]
  refine takeD (i := 1) (d := some 4) (v := ?vT23) rfl rfl (by kernel_rfl) (by kernel_rfl) (by kernel_rfl) (fun _ _ _ h => h) (Or.inl ⟨by rfl, ?hyT23⟩) (by assumption) ?rstT23
  case hyT23 => (intro w hSw; (try dsimp only at hSw); go_simp; (try with_reducible rfl))
  try simp only [Act.put, List.setIfInBounds_toArray, List.set_cons_zero, List.set_cons_succ]
  refine takeD (i := 2) (d := some 5) (v := ?vT24) rfl rfl (by kernel_rfl) (by kernel_rfl) (by kernel_rfl) (fun _ _ _ h => h) (Or.inl ⟨by rfl, ?hyT24⟩) (by assumption) ?rstT24
  case hyT24 => (intro w hSw; (try dsimp only at hSw); go_simp; (try with_reducible rfl))
  try simp only [Act.put, List.setIfInBounds_toArray, List.set_cons_zero, List.set_cons_succ]
  refine takeD (i := 3) (d := some 6) (v := ?vT25) rfl rfl (by kernel_rfl) (by kernel_rfl) (by kernel_rfl) (fun _ _ _ h => h) (Or.inl ⟨by rfl, ?hyT25⟩) (by assumption) ?rstT25
  case hyT25 => (intro w hSw; (try dsimp only at hSw); go_simp; (try with_reducible rfl))
  try simp only [Act.put, List.setIfInBounds_toArray, List.set_cons_zero, List.set_cons_succ]
  refine takeD (i := 4) (d := some 7) (v := ?vT26) rfl rfl (by kernel_rfl) (by kernel_rfl) (by kernel_rfl) (fun _ _ _ h => h) (Or.inl ⟨by rfl, ?hyT26⟩) (by assumption) ?rstT26
  case hyT26 => (intro w hSw; (try dsimp only at hSw); go_simp; (try with_reducible rfl))
  try simp only [Act.put, List.setIfInBounds_toArray, List.set_cons_zero, List.set_cons_succ]
  refine takeD (i := 5) (d := some 8) (v := ?vT27) rfl rfl (by kernel_rfl) (by kernel_rfl) (by kernel_rfl) (fun _ _ _ h => h) (Or.inl ⟨by rfl, ?hyT27⟩) (by assumption) ?rstT27
  case hyT27 => (intro w hSw; (try dsimp only at hSw); go_simp; (try with_reducible rfl))
  try simp only [Act.put, List.setIfInBounds_toArray, List.set_cons_zero, List.set_cons_succ]
  refine takeD (i := 6) (d := some 9) (v := ?vT28) rfl rfl (by kernel_rfl) (by kernel_rfl) (by kernel_rfl) (fun _ _ _ h => h) (Or.inl ⟨by rfl, ?hyT28⟩) (by assumption) ?rstT28
  case hyT28 => (intro w hSw; (try dsimp only at hSw); go_simp; (try with_reducible rfl))
  try simp only [Act.put, List.setIfInBounds_toArray, List.set_cons_zero, List.set_cons_succ]
  refine takeD (i := 7) (d := some 10) (v := ?vT29) rfl rfl (by kernel_rfl) (by kernel_rfl) (by kernel_rfl) (fun _ _ _ h => h) (Or.inl ⟨by rfl, ?hyT29⟩) (by assumption) ?rstT29
  case hyT29 => (intro w hSw; (try dsimp only at hSw); go_simp; (try with_reducible rfl))
  try simp only [Act.put, List.setIfInBounds_toArray, List.set_cons_zero, List.set_cons_succ]
  refine takeD (i := 8) (d := some 11) (v := ?vT30) rfl rfl (by kernel_rfl) (by kernel_rfl) (by kernel_rfl) (fun _ _ _ h => h) (Or.inl ⟨by rfl, ?hyT30⟩) (by assumption) ?rstT30
  case hyT30 => (intro w hSw; (try dsimp only at hSw); go_simp; (try with_reducible rfl))
  try simp only [Act.put, List.setIfInBounds_toArray, List.set_cons_zero, List.set_cons_succ]
  refine takeD (i := 12) (d := some 15) (v := ?vT31) rfl rfl (by kernel_rfl) (by kernel_rfl) (by kernel_rfl) (fun _ _ _ h => h) (Or.inl ⟨by rfl, ?hyT31⟩) (by assumption) ?rstT31
  case hyT31 => (intro w hSw; (try dsimp only at hSw); go_simp; (try with_reducible rfl))
  try simp only [Act.put, List.setIfInBounds_toArray, List.set_cons_zero, List.set_cons_succ]
  refine takeD (i := 13) (d := some 16) (v := ?vT32) rfl rfl (by kernel_rfl) (by kernel_rfl) (by kernel_rfl) (fun _ _ _ h => h) (Or.inl ⟨by rfl, ?hyT32⟩) (by assumption) ?rstT32
  case hyT32 => (intro w hSw; (try dsimp only at hSw); go_simp; (try with_reducible rfl))
  try simp only [Act.put, List.setIfInBounds_toArray, List.set_cons_zero, List.set_cons_succ]
  refine takeD (i := 14) (d := some 17) (v := ?vT33) rfl rfl (by kernel_rfl) (by kernel_rfl) (by kernel_rfl) (fun _ _ _ h => h) (Or.inl ⟨by rfl, ?hyT33⟩) (by assumption) ?rstT33
  case hyT33 => (intro w hSw; (try dsimp only at hSw); go_simp; (try with_reducible rfl))
  try simp only [Act.put, List.setIfInBounds_toArray, List.set_cons_zero, List.set_cons_succ]
  refine takeD (i := 15) (d := some 18) (v := ?vT34) rfl rfl (by kernel_rfl) (by kernel_rfl) (by kernel_rfl) (fun _ _ _ h => h) (Or.inl ⟨by rfl, ?hyT34⟩) (by assumption) ?rstT34
  case hyT34 => (intro w hSw; (try dsimp only at hSw); go_simp; (try with_reducible rfl))
  try simp only [Act.put, List.setIfInBounds_toArray, List.set_cons_zero, List.set_cons_succ]
  refine wpAnyH_ready (rs := [9]) (by kernel_rfl) (by simp) ?_
  refine AllReadyH.cons rfl (fun K hK => ?_) AllReadyH.nil
  go_simp
  refine (HI.out _ ?_).mono ?_
  · first | exact hcur | exact hcur.drew
  rintro e2 w1 ⟨rfl, hb2⟩
  have hcur2 : Below w.heap.size w w1 := by first | exact hcur.trans (hb2.mono hcur.size) | exact hcur.drew.trans (hb2.mono hcur.drew.size)
  clear hcur hb2
  have hcur := hcur2
  clear hcur2
  clear hHeld
  refine hK.out _ _ ?hS35 (fun hHeld => ?rest35)
  case hS35 => (intro p hp; refine Below.cell (B := w.heap.size) ?_ hp; (repeat (first | with_reducible exact hcur | (with_reducible refine Below.drew ?_))))
  clear hK K
  try simp only [Act.put, List.setIfInBounds_toArray, List.set_cons_zero, List.set_cons_succ]
  refine takeD (i := 10) (d := some 13) (v := ?vT36) rfl rfl (by kernel_rfl) (by kernel_rfl) (by kernel_rfl) (fun _ _ _ h => h) (Or.inl ⟨by rfl, ?hyT36⟩) (by assumption) ?rstT36
  case hyT36 => (intro w hSw; (try dsimp only at hSw); go_simp; (try with_reducible rfl))
  try simp only [Act.put, List.setIfInBounds_toArray, List.set_cons_zero, List.set_cons_succ]
  refine takeD (i := 11) (d := some 14) (v := ?vT37) rfl rfl (by kernel_rfl) (by kernel_rfl) (by kernel_rfl) (fun _ _ _ h => h) (Or.inl ⟨by rfl, ?hyT37⟩) (by assumption) ?rstT37
  case hyT37 => (intro w hSw; (try dsimp only at hSw); go_simp; (try with_reducible rfl))
  try simp only [Act.put, List.setIfInBounds_toArray, List.set_cons_zero, List.set_cons_succ]
  refine wpAnyH_ready (rs := [16]) (by kernel_rfl) (by simp) ?_
  refine AllReadyH.cons rfl (fun K hK => ?_) AllReadyH.nil
  go_simp
  refine (HN.out _ ?_).mono ?_
  · first | exact hcur | exact hcur.drew
  rintro e2 w2 ⟨rfl, hb2⟩
  have hcur2 : Below w.heap.size w w2 := by first | exact hcur.trans (hb2.mono hcur.size) | exact hcur.drew.trans (hb2.mono hcur.drew.size)
  clear hcur hb2
  have hcur := hcur2
  clear hcur2
  clear hHeld
  refine hK.out _ _ ?hS38 (fun hHeld => ?rest38)
  case hS38 => (intro p hp; refine Below.cell (B := w.heap.size) ?_ hp; (repeat (first | with_reducible exact hcur | (with_reducible refine Below.drew ?_))))
  clear hK K
  try simp only [Act.put, List.setIfInBounds_toArray, List.set_cons_zero, List.set_cons_succ]
  refine takeD (i := 17) (d := some 20) (v := ?vT39) rfl rfl (by kernel_rfl) (by kernel_rfl) (by kernel_rfl) (fun _ _ _ h => h) (Or.inl ⟨by rfl, ?hyT39⟩) (by assumption) ?rstT39
  case hyT39 => (intro w hSw; (try dsimp only at hSw); go_simp; (try with_reducible rfl))
  try simp only [Act.put, List.setIfInBounds_toArray, List.set_cons_zero, List.set_cons_succ]
  refine takeD (i := 18) (d := some 2) (v := ?vT40) rfl rfl (by kernel_rfl) (by kernel_rfl) (by kernel_rfl) (fun _ _ _ h => h) (Or.inl ⟨by rfl, ?hyT40⟩) (by assumption) ?rstT40
  case hyT40 => (intro w hSw; (try dsimp only at hSw); go_simp; (try with_reducible rfl))
  try simp only [Act.put, List.setIfInBounds_toArray, List.set_cons_zero, List.set_cons_succ]
  refine wpAnyH_done (by kernel_rfl) ?_ _
  go_wp2_with fail
  try rw [hbs]
  go_ret
  exact ⟨by first | rfl | rw [hbs], hcur⟩
end Go.Proofs.YtdplgkjcjcgboaaDoor
