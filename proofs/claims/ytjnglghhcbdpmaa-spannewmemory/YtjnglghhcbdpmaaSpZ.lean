import Derived.Test.YtjnglghhcbdpmaaSpY
namespace Go.Proofs.Ytjnglghhcbdpmaa
open Go.RowKit Go.Lib Go.Sort Go.Shelf
set_option maxRecDepth 100000

def encR (x : Int × Int) : List Value := [.int .i64 x.1, .int .i64 x.2]
def cmpLo (x y : Int × Int) : Int := if x.1 < y.1 then -1 else if y.1 < x.1 then 1 else 0
set_option maxHeartbeats 1000000 in
theorem cmpCompare_any (x y : Int × Int) (w : World) : Calls Try.prog 18 #[.int .i64 x.1, .int .i64 y.1] w fun e w' => e = .returned (.int .i64 (cmpLo x y)) ∧ w' = w := by
  obtain ⟨x1, x2⟩ := x
  obtain ⟨y1, y2⟩ := y
  have hN : ∀ (z : Int) (W : World), Calls Try.prog 32 #[.int .i64 z] W fun e w' => e = .returned (.bool false) ∧ w' = W := fun z W => by
    have t1 : (z == z) = true := by simp
    go_enter Try.func32, Try.ntmps32
    go_wp2_with fail
    go_ret
    exact ⟨rfl, rfl⟩
  have HN : Hid (∀ (z : Int) (W : World), Calls Try.prog 32 #[.int .i64 z] W fun e w' => e = .returned (.bool false) ∧ w' = W) := hN
  clear hN
  unfold cmpLo
  simp only
  by_cases h1 : x1 < y1
  · rw [if_pos h1]
    go_enter Try.func18, Try.ntmps18
    go_wp2_with fail
    refine (HN.out _ _).mono ?_
    rintro e w1 ⟨rfl, rfl⟩
    go_wp2_with fail
    refine (HN.out _ _).mono ?_
    rintro e w1 ⟨rfl, rfl⟩
    go_wp2_with fail
    go_ret
    exact ⟨rfl, rfl⟩
  · rw [if_neg h1]
    by_cases h2 : y1 < x1
    · rw [if_pos h2]
      go_enter Try.func18, Try.ntmps18
      go_wp2_with fail
      refine (HN.out _ _).mono ?_
      rintro e w1 ⟨rfl, rfl⟩
      go_wp2_with fail
      refine (HN.out _ _).mono ?_
      rintro e w1 ⟨rfl, rfl⟩
      go_wp2_with fail
      go_ret
      exact ⟨rfl, rfl⟩
    · rw [if_neg h2]
      go_enter Try.func18, Try.ntmps18
      go_wp2_with fail
      refine (HN.out _ _).mono ?_
      rintro e w1 ⟨rfl, rfl⟩
      go_wp2_with fail
      refine (HN.out _ _).mono ?_
      rintro e w1 ⟨rfl, rfl⟩
      go_wp2_with fail
      go_ret
      exact ⟨rfl, rfl⟩
set_option maxHeartbeats 1000000 in
theorem closure_any (x y : Int × Int) (W : World) : Calls Try.prog 17 #[.agg #[.int .i64 x.1, .int .i64 x.2], .agg #[.int .i64 y.1, .int .i64 y.2]] W fun e w' => e = .returned (.int .i64 (cmpLo x y)) ∧ ∃ q os', w' = grow (W.drewN q) os' := by
  have HC : Hid (∀ W, Calls Try.prog 18 #[.int .i64 x.1, .int .i64 y.1] W fun e w' => e = .returned (.int .i64 (cmpLo x y)) ∧ w' = W) := fun W => cmpCompare_any x y W
  generalize cmpLo x y = r at HC ⊢
  go_enter Try.func17, Try.ntmps17
  go_wp2_with fail
  refine (HC.out _).mono ?_
  rintro e w1 ⟨rfl, rfl⟩
  go_wp2_with fail
  go_ret
  exact ⟨rfl, 0, _, by rw [alloc_eq_grow, alloc_eq_grow, grow_grow]; rfl⟩
theorem ltLo (x y : Int × Int) : ltOf cmpLo x y = decide (x.1 < y.1) := by
  unfold ltOf cmpLo
  by_cases h1 : x.1 < y.1
  · simp [h1]
  · by_cases h2 : y.1 < x.1 <;> simp [h1, h2]
theorem swoLo : SWO (ltOf cmpLo) where
  irrefl x := by rw [ltLo]; simp
  trans x y z h1 h2 := by rw [ltLo] at *; simp at *; omega
  ntrans x y z h1 h2 := by rw [ltLo] at *; simp at *; omega
theorem below_sortWorldK {B blk off m : Nat} {w : World} {dk : Array (Int × Int)} {os : Array Obj} (hB : B ≤ blk) (hs : B ≤ w.heap.size) : Go.RowKit.Below B w (sortWorldK encR 2 w blk off m dk os) := by
  refine ⟨rfl, rfl, rfl, size_sortWorldK_c _ _ _ _ _ _ _ _, fun k hk => ?_⟩
  unfold sortWorldK grow putRowK putRow mapBlock Sort.ahead
  simp only
  rw [Array.getElem?_append_left (by simp; omega), Array.getElem?_modify, if_neg (by omega)]
theorem holdsK_of {w : World} {B g n cap : Nat} {l : List (Int × Int)} (h : Own w B (.slice (some ⟨g, 0, none⟩) n cap) l) : HoldsK encR 2 w g 0 l.toArray := by
  have hlen := h.rng.len
  intro t ht
  simp only [size_flatK, List.size_toArray] at ht
  rw [get_flatK _ _ _ _ (by simpa using ht)]
  have hf : w.frozen? ⟨g, 0 + t, none⟩ = false := by
    obtain ⟨g', e, _, _, hz⟩ := own_ptr h (by omega)
    cases e
    exact hz _
  refine ⟨?_, hf⟩
  obtain ⟨g', off', e, _, hc, hd⟩ := h.rng.cells (t / 2) (by omega)
  cases e
  have hget : l.toArray[t / 2]! = l.getD (t / 2) (0, 0) := by
    rw [getElem!_pos _ _ (by simp; omega)]
    simp [List.getD_eq_getElem?_getD, show t / 2 < l.length by omega]
  rw [hget]
  rcases Nat.mod_two_eq_zero_or_one t with hm | hm
  · rw [hm, show 0 + t = 0 + t / 2 * 2 by omega, hc]
    rfl
  · rw [hm, show 0 + t = 0 + t / 2 * 2 + 1 by omega, hd]
    rfl
theorem rng_of_holdsK {w : World} {g n : Nat} {d : Array (Int × Int)} (h : HoldsK encR 2 w g 0 d) (hg : g < w.heap.size) (hn : d.size = n) (hm : n ≤ maxLen) : Rng w (some ⟨g, 0, none⟩) n n d.toList := by
  refine ⟨by simpa using hn, ⟨Nat.le_refl _, hm⟩, fun j hj => ⟨g, 0, rfl, hg, ?_, ?_⟩⟩
  · have := (h (j * 2) (by simp; omega)).1
    rw [get_flatK _ _ _ _ (by omega), show j * 2 / 2 = j by omega, show j * 2 % 2 = 0 by omega] at this
    rw [this, getElem!_pos d j (by omega)]
    simp [encR, List.getD_eq_getElem?_getD, show j < d.size by omega]
  · have := (h (j * 2 + 1) (by simp; omega)).1
    rw [get_flatK _ _ _ _ (by omega), show (j * 2 + 1) / 2 = j by omega, show (j * 2 + 1) % 2 = 1 by omega] at this
    rw [Nat.add_assoc, this, getElem!_pos d j (by omega)]
    simp [encR, List.getD_eq_getElem?_getD, show j < d.size by omega]
theorem sort_any {w : World} {B g n cap : Nat} {l : List (Int × Int)} (h : Own w B (.slice (some ⟨g, 0, none⟩) n cap) l) (hBg : B ≤ g) (hBs : B ≤ w.heap.size) (hg : g < w.heap.size) (hn : n ≤ 32768) :
    Calls Try.prog 16 #[.slice (some ⟨g, 0, none⟩) n cap, .func (.func 17) #[] #[]] w fun e w' => e = .returned (.tuple #[]) ∧ ∃ k : List (Int × Int), k.Perm l ∧ Los k ∧ Rng w' (some ⟨g, 0, none⟩) n n k ∧ Go.RowKit.Below B w w' := by
  have hlen := h.rng.len
  have eg : ∀ args w, (callFunc 17 args).run Try.prog w = .ok (.enter 17 args) w := enters_of Try.func17 (by kernel_rfl) rfl
  have hH := holdsK_of h
  have hcon := AnyQ.slices_SortFunc Try.sortRange 2 Try.isAgg39 Try.sizeOf39 encR (fun _ => rfl) (fun x v hv => by simp [encR] at hv; rcases hv with rfl | rfl <;> rfl) cmpLo swoLo 17 #[] g 0 cap l.toArray w eg (fun _ _ _ _ x y => closure_any x y _) hH hg (by simp; omega)
  have hsz : l.toArray.size = n := by simpa using hlen
  rw [hsz] at hcon
  refine Calls.mono hcon ?_
  rintro e w' ⟨he, d', m, os, hp, hs, rfl⟩
  obtain ⟨hp1, _, hp3⟩ := hp
  refine ⟨he, d'.toList, ?_, ?_, rng_of_holdsK (holdsK_sortWorldK_c _ _ _ _ _ l.toArray d' m os hH hg hp1) (Nat.lt_of_lt_of_le hg (size_sortWorldK_c _ _ _ _ _ _ _ _)) (hp1.trans hsz) (by simp only [maxLen]; omega), below_sortWorldK hBg hBs⟩
  · have e1 : (d'.extract 0 n).toList = d'.toList := by rw [← hsz, ← hp1]; simp
    have e2 : (l.toArray.extract 0 n).toList = l := by rw [← hsz]; simp
    rw [e1, e2] at hp3
    exact hp3
  · refine List.pairwise_iff_getElem.2 fun i j hi hj hij => ?_
    have := hs i j (Nat.zero_le _) hij (by rw [← hsz, ← hp1]; simpa using hj)
    rw [ltLo, getElem!_pos d' i (by simpa using hi), getElem!_pos d' j (by simpa using hj)] at this
    simp only [decide_eq_false_iff_not] at this
    simp only [Array.getElem_toList]
    omega
end Go.Proofs.Ytjnglghhcbdpmaa
