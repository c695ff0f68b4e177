import Derived.Test.YtffkncohliollaaGreatDoorSpEG
import Derived.Test.YtffkncohliollaaGreatDoorSpKX
import Derived.Test.YtffkncohliollaaGreatDoorLayF
namespace Go.Proofs.YtffkncohliollaaGreatDoor.Sp
open Go.RowKit Go.Lib
set_option maxRecDepth 100000

/-- 'copy(out, a)' -/
theorem copy_run {w : World} {B g n cap : Nat} {a : Option Addr} {l l0 : List (Int × Int)} (h : Rng w a n cap l) (h0 : Own w B (.slice (some ⟨g, 0, none⟩) n n) l0) (hl0 : l0.length = n) (ty : TypeId) :
    ∃ w', (Builtin.copy_ #[23, 23] ty #[.slice (some ⟨g, 0, none⟩) n n, .slice a n cap]).run Tryz.prog w = .ok (goInt n) w' ∧ Own w' B (.slice (some ⟨g, 0, none⟩) n n) l ∧ Below B w w' := by
  obtain ⟨i, hi, hz, hs, hby⟩ := info_parts rngInfo
  have hlen := h.len
  by_cases hn : n = 0
  · subst hn
    obtain rfl : l = [] := List.eq_nil_of_length_eq_zero hlen
    obtain rfl : l0 = [] := List.eq_nil_of_length_eq_zero hl0
    refine ⟨w, ?_, h0, Below.refl _ _⟩
    cases a <;> simp [Builtin.copy_, run_underlying Tryz.underlying23, sizeOf, typeInfo, hi, Builtin.lenOf, Builtin.firstCells, loadCells, loadCellsFrom, storeCells]
  · obtain ⟨g2, off2, rfl, hg2, hc⟩ := h.row (by omega)
    rcases h0.2 with ⟨e, _⟩ | ⟨g', cap', cur, e, hb, hh, hnc, hcm, hsz, htk⟩
    · simp at e
    · simp only [Value.slice.injEq, Option.some.injEq, Addr.mk.injEq, and_true] at e
      obtain ⟨rfl, e2, rfl⟩ := e
      have hfl : (flat l).length = n * 2 := by rw [flat_length, hlen]
      have hl := run_loadCells_list (P := Tryz.prog) w ⟨g2, off2, none⟩ (flat l) hc
      have hst := run_storeCells_at Tryz.prog g 0 56 (flat l) 0 cur w hh (by omega) (flat_one l)
      refine ⟨w.setRow g ((cur.toList.take 0 ++ flat l) ++ cur.toList.drop (0 + (flat l).length)).toArray, ?_, ⟨by rw [hlen]; exact hfl, .inr ⟨g, n, _, by rw [hlen], hb, setRow_heap w g cur _ _ _ hh, by omega, hcm, ?_, ?_⟩⟩, below_setRow (Below.refl _ _) hb _⟩
      · rw [hfl] at hl
        simp only [Nat.add_zero] at hst
        simp [Builtin.copy_, run_underlying Tryz.underlying23, Builtin.lenOf, Builtin.firstCells, sizeOf, typeInfo, hi, hs, hl, hst]
      · simp only [List.size_toArray, List.length_append, List.length_drop, List.take_zero, List.length_nil, Array.length_toList]
        omega
      · rw [hlen]
        simp [← hfl]
set_option maxHeartbeats 1000000 in
theorem spanCopied_any {w : World} {a : Option Addr} {n cap : Nat} {l : List (Int × Int)} (h : Rng w a n cap l) (hn : n ≤ 32768) :
    Calls Tryz.prog 24 #[.slice a n cap] w fun e w' => ∃ g, e = .returned (.slice (some ⟨g, 0, none⟩) n n) ∧ Own w' w.heap.size (.slice (some ⟨g, 0, none⟩) n n) l ∧ w.heap.size ≤ g ∧ g < w'.heap.size ∧ Below w.heap.size w w' := by
  obtain ⟨i, hi, hz, hs, hby⟩ := info_parts rngInfo
  obtain ⟨w1, hmk, hown, hgr⟩ := run_makeSlice_full (P := Tryz.prog) w w.heap.size 23 56 i _ 2 Tryz.underlying23 hi hz hs .i64 .i64 n (by omega) (by rw [hby]; omega) (by simp only [maxLen]; omega) (Nat.le_refl _)
  have hb1 : Below w.heap.size w w1 := below_grown hgr (fun k hk => by simp at hk) (Nat.le_refl _)
  have h0 : Own w1 w.heap.size (.slice (some ⟨w.heap.size, 0, none⟩) n n) (List.replicate n (0, 0)) := by
    have e1 : (madeCells (Value.agg #[.int .i64 0, .int .i64 0]).cells (n * 2)).toList = flat (List.replicate n (0, 0)) := by
      apply List.ext_getElem?
      intro j
      by_cases hj : j < n * 2
      · have he := flat_even (List.replicate n ((0 : Int), (0 : Int))) (j / 2) (by simp; omega)
        have hd : (List.replicate n ((0 : Int), (0 : Int))).getD (j / 2) (0, 0) = (0, 0) := by
          rw [List.getD_eq_getElem?_getD, List.getElem?_replicate]
          split <;> rfl
        rw [hd] at he
        rcases Nat.mod_two_eq_zero_or_one j with hm | hm
        · rw [show j / 2 * 2 = j by omega] at he
          rw [he.1]
          simp [madeCells, hj, hm, Value.cells]
        · rw [show j / 2 * 2 + 1 = j by omega] at he
          rw [he.2]
          simp [madeCells, hj, hm, Value.cells]
      · rw [List.getElem?_eq_none (by simp [madeCells]; omega), List.getElem?_eq_none (by rw [flat_length]; simp; omega)]
    rw [e1] at hown
    unfold Own
    rw [List.length_replicate]
    exact hown
  obtain ⟨w2, hcp, ho2, hb2⟩ := copy_run (h.below hb1) h0 (List.length_replicate ..) 3
  have hB2 := hb1.trans hb2
  have hlt : w.heap.size < w2.heap.size := by
    rcases hown.2 with ⟨e, _⟩ | ⟨g', cap', cur, e, _, hh, _⟩
    · simp at e
    · simp only [Value.slice.injEq, Option.some.injEq, Addr.mk.injEq, and_true, true_and] at e
      obtain ⟨rfl, _⟩ := e
      have := (Array.getElem?_eq_some_iff.1 hh).1
      have := hb2.size
      have hg := hgr.size
      rcases Nat.lt_or_ge w.heap.size w2.heap.size with h' | h'
      · exact h'
      · exfalso
        have hs2 := (World.ownsRow.lt ho2 w.heap.size rfl).2
        omega
  clear hown h0 hgr hb1 hb2 h
  go_enter Tryz.func24, Tryz.ntmps24
  go_wp2_with (at_builtin; refine wpList_copy_hr rfl _ _ 23 rfl _ _ rfl rfl hcp ?_)
  go_ret
  exact ⟨_, rfl, ho2, Nat.le_refl _, hlt, hB2⟩
end Go.Proofs.YtffkncohliollaaGreatDoor.Sp

namespace Go.Proofs.YtffkncohliollaaGreatDoor.Sp
open Go.RowKit Go.Lib Go.Sort Go.Shelf
set_option maxRecDepth 100000

end Go.Proofs.YtffkncohliollaaGreatDoor.Sp

namespace Go.Proofs.YtffkncohliollaaGreatDoor.Sp
open Go.RowKit Go.Lib Go.Sort Go.Shelf
set_option maxRecDepth 100000

def encR (x : Int × Int) : List Value := [.int .i64 x.1, .int .i64 x.2]
def cmpLo (x y : Int × Int) : Int := if x.1 < y.1 then -1 else if y.1 < x.1 then 1 else 0
set_option maxHeartbeats 1000000 in
theorem cmpCompare_any (x y : Int × Int) (w : World) : Calls Tryz.prog 27 #[.int .i64 x.1, .int .i64 y.1] w fun e w' => e = .returned (.int .i64 (cmpLo x y)) ∧ w' = w := by
  obtain ⟨x1, x2⟩ := x
  obtain ⟨y1, y2⟩ := y
  have hN : ∀ (z : Int) (W : World), Calls Tryz.prog 59 #[.int .i64 z] W fun e w' => e = .returned (.bool false) ∧ w' = W := fun z W => by
    have t1 : (z == z) = true := by simp
    go_enter Tryz.func59, Tryz.ntmps59
    go_wp2_with fail
    go_ret
    exact ⟨rfl, rfl⟩
  have HN : Hid (∀ (z : Int) (W : World), Calls Tryz.prog 59 #[.int .i64 z] W fun e w' => e = .returned (.bool false) ∧ w' = W) := hN
  clear hN
  unfold cmpLo
  simp only
  by_cases h1 : x1 < y1
  · rw [if_pos h1]
    go_enter Tryz.func27, Tryz.ntmps27
    go_wp2_with fail
    refine (HN.out _ _).mono ?_
    rintro e w1 ⟨rfl, rfl⟩
    go_wp2_with fail
    refine (HN.out _ _).mono ?_
    rintro e w1 ⟨rfl, rfl⟩
    go_wp2_with fail
    go_ret
    exact ⟨rfl, rfl⟩
  · rw [if_neg h1]
    by_cases h2 : y1 < x1
    · rw [if_pos h2]
      go_enter Tryz.func27, Tryz.ntmps27
      go_wp2_with fail
      refine (HN.out _ _).mono ?_
      rintro e w1 ⟨rfl, rfl⟩
      go_wp2_with fail
      refine (HN.out _ _).mono ?_
      rintro e w1 ⟨rfl, rfl⟩
      go_wp2_with fail
      go_ret
      exact ⟨rfl, rfl⟩
    · rw [if_neg h2]
      go_enter Tryz.func27, Tryz.ntmps27
      go_wp2_with fail
      refine (HN.out _ _).mono ?_
      rintro e w1 ⟨rfl, rfl⟩
      go_wp2_with fail
      refine (HN.out _ _).mono ?_
      rintro e w1 ⟨rfl, rfl⟩
      go_wp2_with fail
      go_ret
      exact ⟨rfl, rfl⟩
set_option maxHeartbeats 1000000 in
theorem closure_any (x y : Int × Int) (W : World) : Calls Tryz.prog 26 #[.agg #[.int .i64 x.1, .int .i64 x.2], .agg #[.int .i64 y.1, .int .i64 y.2]] W fun e w' => e = .returned (.int .i64 (cmpLo x y)) ∧ ∃ q os', w' = grow (W.drewN q) os' := by
  have HC : Hid (∀ W, Calls Tryz.prog 27 #[.int .i64 x.1, .int .i64 y.1] W fun e w' => e = .returned (.int .i64 (cmpLo x y)) ∧ w' = W) := fun W => cmpCompare_any x y W
  generalize cmpLo x y = r at HC ⊢
  go_enter Tryz.func26, Tryz.ntmps26
  go_wp2_with fail
  refine (HC.out _).mono ?_
  rintro e w1 ⟨rfl, rfl⟩
  go_wp2_with fail
  go_ret
  exact ⟨rfl, 0, _, by rw [alloc_eq_grow, alloc_eq_grow, grow_grow]; rfl⟩
theorem ltLo (x y : Int × Int) : ltOf cmpLo x y = decide (x.1 < y.1) := by
  unfold ltOf cmpLo
  by_cases h1 : x.1 < y.1
  · simp [h1]
  · by_cases h2 : y.1 < x.1 <;> simp [h1, h2]
theorem swoLo : SWO (ltOf cmpLo) where
  irrefl x := by rw [ltLo]; simp
  trans x y z h1 h2 := by rw [ltLo] at *; simp at *; omega
  ntrans x y z h1 h2 := by rw [ltLo] at *; simp at *; omega
theorem below_sortWorldK {B blk off m : Nat} {w : World} {dk : Array (Int × Int)} {os : Array Obj} (hB : B ≤ blk) (hs : B ≤ w.heap.size) : Go.RowKit.Below B w (sortWorldK encR 2 w blk off m dk os) := by
  refine ⟨rfl, rfl, rfl, size_sortWorldK_c _ _ _ _ _ _ _ _, fun k hk => ?_⟩
  unfold sortWorldK grow putRowK putRow mapBlock Sort.ahead
  simp only
  rw [Array.getElem?_append_left (by simp; omega), Array.getElem?_modify, if_neg (by omega)]
theorem holdsK_of {w : World} {B g n cap : Nat} {l : List (Int × Int)} (h : Own w B (.slice (some ⟨g, 0, none⟩) n cap) l) : HoldsK encR 2 w g 0 l.toArray := by
  have hlen := h.rng.len
  intro t ht
  simp only [size_flatK, List.size_toArray] at ht
  rw [get_flatK _ _ _ _ (by simpa using ht)]
  have hf : w.frozen? ⟨g, 0 + t, none⟩ = false := by
    obtain ⟨g', e, _, _, hz⟩ := own_ptr h (by omega)
    cases e
    exact hz _
  refine ⟨?_, hf⟩
  obtain ⟨g', off', e, _, hc, hd⟩ := h.rng.cells (t / 2) (by omega)
  cases e
  have hget : l.toArray[t / 2]! = l.getD (t / 2) (0, 0) := by
    rw [getElem!_pos _ _ (by simp; omega)]
    simp [List.getD_eq_getElem?_getD, show t / 2 < l.length by omega]
  rw [hget]
  rcases Nat.mod_two_eq_zero_or_one t with hm | hm
  · rw [hm, show 0 + t = 0 + t / 2 * 2 by omega, hc]
    rfl
  · rw [hm, show 0 + t = 0 + t / 2 * 2 + 1 by omega, hd]
    rfl
theorem rng_of_holdsK {w : World} {g n : Nat} {d : Array (Int × Int)} (h : HoldsK encR 2 w g 0 d) (hg : g < w.heap.size) (hn : d.size = n) (hm : n ≤ maxLen) : Rng w (some ⟨g, 0, none⟩) n n d.toList := by
  refine ⟨by simpa using hn, ⟨Nat.le_refl _, hm⟩, fun j hj => ⟨g, 0, rfl, hg, ?_, ?_⟩⟩
  · have := (h (j * 2) (by simp; omega)).1
    rw [get_flatK _ _ _ _ (by omega), show j * 2 / 2 = j by omega, show j * 2 % 2 = 0 by omega] at this
    rw [this, getElem!_pos d j (by omega)]
    simp [encR, List.getD_eq_getElem?_getD, show j < d.size by omega]
  · have := (h (j * 2 + 1) (by simp; omega)).1
    rw [get_flatK _ _ _ _ (by omega), show (j * 2 + 1) / 2 = j by omega, show (j * 2 + 1) % 2 = 1 by omega] at this
    rw [Nat.add_assoc, this, getElem!_pos d j (by omega)]
    simp [encR, List.getD_eq_getElem?_getD, show j < d.size by omega]
theorem sort_any {w : World} {B g n cap : Nat} {l : List (Int × Int)} (h : Own w B (.slice (some ⟨g, 0, none⟩) n cap) l) (hBg : B ≤ g) (hBs : B ≤ w.heap.size) (hg : g < w.heap.size) (hn : n ≤ 32768) :
    Calls Tryz.prog 25 #[.slice (some ⟨g, 0, none⟩) n cap, .func (.func 26) #[] #[]] w fun e w' => e = .returned (.tuple #[]) ∧ ∃ k : List (Int × Int), k.Perm l ∧ Los k ∧ Rng w' (some ⟨g, 0, none⟩) n n k ∧ Go.RowKit.Below B w w' := by
  have hlen := h.rng.len
  have eg : ∀ args w, (callFunc 26 args).run Tryz.prog w = .ok (.enter 26 args) w := enters_of Tryz.func26 (by kernel_rfl) rfl
  have hH := holdsK_of h
  have hcon := AnyQ.slices_SortFunc Tryz.sortRange 2 Tryz.isAgg56 Tryz.sizeOf56 encR (fun _ => rfl) (fun x v hv => by simp [encR] at hv; rcases hv with rfl | rfl <;> rfl) cmpLo swoLo 26 #[] g 0 cap l.toArray w eg (fun _ _ _ _ x y => closure_any x y _) hH hg (by simp; omega)
  have hsz : l.toArray.size = n := by simpa using hlen
  rw [hsz] at hcon
  refine Calls.mono hcon ?_
  rintro e w' ⟨he, d', m, os, hp, hs, rfl⟩
  obtain ⟨hp1, _, hp3⟩ := hp
  refine ⟨he, d'.toList, ?_, ?_, rng_of_holdsK (holdsK_sortWorldK_c _ _ _ _ _ l.toArray d' m os hH hg hp1) (Nat.lt_of_lt_of_le hg (size_sortWorldK_c _ _ _ _ _ _ _ _)) (hp1.trans hsz) (by simp only [maxLen]; omega), below_sortWorldK hBg hBs⟩
  · have e1 : (d'.extract 0 n).toList = d'.toList := by rw [← hsz, ← hp1]; simp
    have e2 : (l.toArray.extract 0 n).toList = l := by rw [← hsz]; simp
    rw [e1, e2] at hp3
    exact hp3
  · refine List.pairwise_iff_getElem.2 fun i j hi hj hij => ?_
    have := hs i j (Nat.zero_le _) hij (by rw [← hsz, ← hp1]; simpa using hj)
    rw [ltLo, getElem!_pos d' i (by simpa using hi), getElem!_pos d' j (by simpa using hj)] at this
    simp only [decide_eq_false_iff_not] at this
    simp only [Array.getElem_toList]
    omega
end Go.Proofs.YtffkncohliollaaGreatDoor.Sp

namespace Go.Proofs.YtffkncohliollaaGreatDoor.Sp
open Go.RowKit Go.Lib
set_option maxRecDepth 100000

theorem getD_mem' {l : List (Int × Int)} {j : Nat} (hj : j < l.length) : l.getD j (0, 0) ∈ l := by
  rw [List.getD_eq_getElem?_getD, List.getElem?_eq_getElem hj]
  exact List.getElem_mem _
/-- Parts, as Make takes them. -/
def Parts (l : List (Int × Int)) : Prop := ∀ r ∈ l, 0 ≤ r.1 ∧ r.1 ≤ r.2 ∧ r.2 ≤ 1048576
theorem lies_perm {k l : List (Int × Int)} (h : k.Perm l) (q : Int) : Lies k q ↔ Lies l q := by
  constructor
  · rintro ⟨r, hr, h'⟩; exact ⟨r, h.mem_iff.1 hr, h'⟩
  · rintro ⟨r, hr, h'⟩; exact ⟨r, h.mem_iff.2 hr, h'⟩
theorem made_all {k l : List (Int × Int)} (hk : k.Perm l) (hs : Los k) (hl : Parts l) : Norm (-1) (takenL [] k 0 1048576 0) ∧ (∀ q, Lies (takenL [] k 0 1048576 0) q ↔ Lies l q) ∧ (takenL [] k 0 1048576 0).length ≤ l.length := by
  have := takenL_all (l := []) (b := -1) (lo := 0) (hi := 1048576) (d := 0) hs trivial (fun r hr => by cases hr) (fun x hx => by omega)
  refine ⟨this.1, fun q => ?_, ?_⟩
  · rw [this.2 q, show q - 0 = q by omega, lies_perm hk]
    constructor
    · rintro (h | h)
      · exact absurd h (lies_nil _)
      · exact h.1
    · intro h
      refine .inr ⟨h, ?_⟩
      obtain ⟨r, hr, h1, h2⟩ := h
      have := hl r hr
      omega
  · have := takenL_length [] k 0 1048576 0
    rw [hk.length_eq] at this
    simpa using this
set_option maxHeartbeats 400000 in
theorem make_many {w : World} {a : Option Addr} {n cap : Nat} (hn : 32768 < n) :
    Calls Tryz.prog 7 #[.slice a n cap] w fun e w' => e = .returned (.tuple #[.slice none 0 0, .int .i64 21]) ∧ Below w.heap.size w w' := by
  go_enter Tryz.func7, Tryz.ntmps7
  go_wp2_with fail
  go_ret2
  exact ⟨rfl, Below.refl _ _⟩
set_option maxHeartbeats 2000000 in
theorem make_any {w : World} {a : Option Addr} {n cap : Nat} {l : List (Int × Int)} (h : Rng w a n cap l) (hn : n ≤ 32768) :
    Calls Tryz.prog 7 #[.slice a n cap] w fun e w' => Below w.heap.size w w' ∧ ((¬ Parts l ∧ e = .returned (.tuple #[.slice none 0 0, .int .i64 20])) ∨
      (Parts l ∧ ∃ U a' cap', Norm (-1) U ∧ (∀ q, Lies U q ↔ Lies l q) ∧ U.length ≤ n ∧ e = .returned (.tuple #[.slice a' U.length cap', .int .i64 0]) ∧ Own w' w.heap.size (.slice a' U.length cap') U)) := by
  have hlen := h.len
  have HCP : Hid (∀ W, Below w.heap.size w W → Calls Tryz.prog 24 #[.slice a n cap] W _) := fun W hb => spanCopied_any (h.below hb) hn
  go_enter Tryz.func7, Tryz.ntmps7
  go_wp2_with fail
  go_loopw [12] (fun i w' => ∃ j : Nat, j ≤ n ∧ i = .int .i64 j ∧ Below w.heap.size w w' ∧ Hid (∀ i, i < j → 0 ≤ (l.getD i (0, 0)).1 ∧ (l.getD i (0, 0)).1 ≤ (l.getD i (0, 0)).2 ∧ (l.getD i (0, 0)).2 ≤ 1048576)) (fun i _ => n - (RowKit.intOf i).toNat)
  case atStart => exact ⟨0, Nat.zero_le _, rfl, Below.refl _ _, fun i hi => by omega⟩
  case round =>
    obtain ⟨j, hjn, rfl, hb, HP⟩ := hrel
    have hsz := hb.size
    by_cases hj : j < n
    · obtain ⟨g, off, rfl, hg, hc, hd⟩ := h.cells j hj
      have c0 := (hb.cell (p := ⟨g, off + j * 2, none⟩) hg).trans hc
      have c1 := (hb.cell (p := ⟨g, off + j * 2 + 1, none⟩) hg).trans hd
      by_cases hp : 0 ≤ (l.getD j (0, 0)).1 ∧ (l.getD j (0, 0)).1 ≤ (l.getD j (0, 0)).2 ∧ (l.getD j (0, 0)).2 ≤ 1048576
      · have HP2 : Hid (∀ i, i < j + 1 → 0 ≤ (l.getD i (0, 0)).1 ∧ (l.getD i (0, 0)).1 ≤ (l.getD i (0, 0)).2 ∧ (l.getD i (0, 0)).2 ≤ 1048576) := fun i hi => by
          by_cases e : i = j
          · subst e; exact hp
          · exact HP.out i (by omega)
        have HI : Hid (∀ W, Calls Tryz.prog 23 #[.agg #[.int .i64 (l.getD j (0, 0)).1, .int .i64 (l.getD j (0, 0)).2]] W fun e w' => e = .returned (.bool true) ∧ Below W.heap.size W w') := isPart_yes _ _ hp
        clear hp HP hc hd
        generalize (l.getD j (0, 0)).1 = x at *
        generalize (l.getD j (0, 0)).2 = y at *
        go_wp2_with fail
        refine (HI.out _).mono ?_
        rintro e w1 ⟨rfl, hb1⟩
        have hB1 : Below w.heap.size w w1 := (hb.alloc (by omega) _).trans (hb1.mono (by simp; omega))
        clear hb1
        go_wp2_with fail
        go_roundw
        case rel => exact ⟨j + 1, by omega, by go_num, hB1, HP2⟩
        case measure => simp [RowKit.intOf]; omega
      · have HI : Hid (∀ W, Calls Tryz.prog 23 #[.agg #[.int .i64 (l.getD j (0, 0)).1, .int .i64 (l.getD j (0, 0)).2]] W fun e w' => e = .returned (.bool false) ∧ Below W.heap.size W w') := isPart_no _ _ hp
        have HNP : Hid (¬ Parts l) := fun hP => hp (hP _ (getD_mem' (by omega)))
        clear hp HP hc hd
        generalize (l.getD j (0, 0)).1 = x at *
        generalize (l.getD j (0, 0)).2 = y at *
        go_wp2_with fail
        refine (HI.out _).mono ?_
        rintro e w1 ⟨rfl, hb1⟩
        have hB1 : Below w.heap.size w w1 := (hb.alloc (by omega) _).trans (hb1.mono (by simp; omega))
        clear hb1
        go_wp2_with fail
        go_ret2
        exact ⟨hB1, .inl ⟨HNP.out, rfl⟩⟩
    · have hP : Parts l := fun r hr => by
        obtain ⟨i, hi, rfl⟩ := List.getElem_of_mem hr
        have := HP.out i (by omega)
        simpa [List.getD_eq_getElem?_getD, hi] using this
      have HPL : Hid (Parts l) := hP
      clear HP hP h
      go_wp2_with fail
      refine (HCP.out _ hb).mono ?_
      rintro e w1 ⟨g, rfl, ho1, hg1, hg2, hb1⟩
      have hB1 : Below w.heap.size w w1 := hb.trans (hb1.mono hsz)
      have hs1 := hB1.size
      clear hb1
      go_wp2_with fail
      refine (sort_any (B := w.heap.size) (ho1.mono hsz) (by omega) (by omega) hg2 hn).mono ?_
      rintro e w2 ⟨rfl, k, hkp, hks, hkr, hb2⟩
      have hB2 : Below w.heap.size w w2 := hB1.trans hb2
      obtain ⟨m1, m2, m3⟩ := made_all hkp hks HPL.out
      have HM1 : Hid (Norm (-1) (takenL [] k 0 1048576 0)) := m1
      have HM2 : Hid (∀ q, Lies (takenL [] k 0 1048576 0) q ↔ Lies l q) := m2
      have HT : Hid (Calls Tryz.prog 28 #[.slice none 0 0, .slice (some ⟨g, 0, none⟩) n n, .int .i64 0, .int .i64 1048576, .int .i64 0] w2 _) :=
        taken_any (B := w2.heap.size) (own_nil w2 _) (Nat.le_refl _) hkr hkr.under 0 1048576 0 (by omega) (by omega) (fun r hr => by have := HPL.out r (hkp.mem_iff.1 hr); omega) (by omega) (by omega) (by omega)
      clear m1 m2 hkp hks hkr hb2 ho1
      go_wp2_with fail
      refine HT.out.mono ?_
      rintro e w3 ⟨o3, no3, co3, rfl, ho3, hb3⟩
      have hB3 : Below w.heap.size w w3 := hB2.trans (hb3.mono hB2.size)
      have hl3 := ho3.rng.len
      have HO : Hid (Own w3 w.heap.size (.slice o3 no3 co3) (takenL [] k 0 1048576 0)) := ho3.mono hB2.size
      clear ho3 hb3
      go_wp2_with fail
      go_ret2
      exact ⟨hB3, .inr ⟨HPL.out, takenL [] k 0 1048576 0, o3, co3, HM1.out, HM2.out, by omega, (by rw [hl3]; rfl), (by rw [hl3]; exact HO.out)⟩⟩
end Go.Proofs.YtffkncohliollaaGreatDoor.Sp
