import Derived.Test.YtdmhajlhpieedaaLbQ
/-! LinkOrder. -/
namespace Go.Proofs.Ytdmhajlhpieedaa
open Go.RowKit Go.Lib Go.Shelf
set_option maxRecDepth 100000

def S1o : Lk := ⟨3, 1, 1, [⟨0, 2, 2, [120, 121, 122], false⟩]⟩
def pA (node : Int) : List Pk := [⟨0, 0, none, 0, []⟩, ⟨node, 1, none, 0, []⟩]
def pB (node : Int) : List Pk := [⟨0, 0, none, 0, []⟩, ⟨1, node, none, 0, []⟩]
def wantV (node : Int) : Int := if 0 ≤ node ∧ node < 3 then 161 else 170
theorem sendE_A (node : Int) : sendE (lk0 3 1) (pA node) = wantV node := by
  by_cases h : 0 ≤ node ∧ node < 3
  · simp [sendE, pA, goodP, nodeB, lk0, wantV, h]
  · simp only [wantV, if_neg h, sendE]
    rw [if_neg]
    simp only [pA, goodP, nodeB, lk0, List.all_cons, List.all_nil, Bool.and_true, Bool.and_eq_true, decide_eq_true_eq]
    omega
theorem sendE_B (node : Int) : sendE (lk0 3 1) (pB node) = wantV node := by
  by_cases h : 0 ≤ node ∧ node < 3
  · simp [sendE, pB, goodP, nodeB, lk0, wantV, h]
  · simp only [wantV, if_neg h, sendE]
    rw [if_neg]
    simp only [pB, goodP, nodeB, lk0, List.all_cons, List.all_nil, Bool.and_true, Bool.and_eq_true, decide_eq_true_eq]
    omega
theorem wantV_ne (node : Int) : wantV node ≠ 0 := by unfold wantV; split <;> decide
theorem ps_none {W : World} {D : Nat → Prop} {l : List Pk} (h : ∀ p ∈ l, p.a = none ∧ p.bs = [] ∧ p.cap = 0) : (∀ p ∈ l, Rw byU 1 W p.a p.bs.length p.cap p.bs ∧ p.bs.length ≤ 281474976710656) ∧ ∀ p ∈ l, Away W D p.a := by
  refine ⟨fun p hp => ?_, fun p hp g hg => ?_⟩
  · obtain ⟨h1, h2, h3⟩ := h p hp
    rw [h1, h2, h3]
    exact ⟨rw_nil W, by simp⟩
  · rw [(h p hp).1] at hg; cases hg
/-- Send of a list that was just written out. -/
theorem send_litG {W0 : World} {K : Nat → Prop} {V : World} {q : Nat} {S : Lk} (h : St W0 K V q S) (ps : List Pk) (cs : Array Value) (hcs : flatF pkv ps = cs.toList) (n : Nat) (hn : ps.length = n) (hn2 : n ≤ 1000) (hb : ∀ p ∈ ps, Rw byU 1 V p.a p.bs.length p.cap p.bs ∧ p.bs.length ≤ 281474976710656) (hp : ∀ p ∈ ps, Away V K p.a) (hN : S.next + n ≤ 1152921504606846976) :
    Calls Try.prog 13 #[.pointer (some ⟨q, 0, none⟩), .slice (some ⟨V.heap.size, 0, none⟩) n n] (V.alloc (.cells cs 36)) fun e w' => e = .returned (sendV S ps) ∧ St W0 (grow K (V.alloc (.cells cs 36)) w') w' q (sendR S ps) ∧ Chg K V w' := by
  have hB : Below V.heap.size V (V.alloc (.cells cs 36)) := (Below.refl _ _).alloc (Nat.le_refl _) _
  have h1 := h.below hB
  refine (sendK h1.lnk ⟨(offF_lit (T := 36) V ps cs hcs n hn (by simp only [maxLen]; omega)).rw_ layP, fun p hpp => ⟨(hb p hpp).1.below hB, (hb p hpp).2⟩⟩ (fun g hg => ?_) (fun p hpp g hg => ⟨Nat.lt_of_lt_of_le (hp p hpp g hg).1 hB.size, (hp p hpp g hg).2⟩) (by omega) hN).mono ?_
  · cases hg
    exact ⟨by simp, fun e => by have := (h.new _ e).2; simp at this⟩
  · rintro e w' ⟨e1, e2⟩
    exact ⟨e1, h1.lft e2, (Chg.of_below hB).trans e2.2⟩
theorem send_lit {W0 : World} {K : Nat → Prop} {V : World} {q : Nat} {S : Lk} (h : St W0 K V q S) (ps : List Pk) (cs : Array Value) (hcs : flatF pkv ps = cs.toList) (n : Nat) (hn : ps.length = n) (hn2 : n ≤ 1000) (hp : ∀ p ∈ ps, p.a = none ∧ p.bs = [] ∧ p.cap = 0) (hN : S.next + n ≤ 1152921504606846976) :
    Calls Try.prog 13 #[.pointer (some ⟨q, 0, none⟩), .slice (some ⟨V.heap.size, 0, none⟩) n n] (V.alloc (.cells cs 36)) fun e w' => e = .returned (sendV S ps) ∧ St W0 (grow K (V.alloc (.cells cs 36)) w') w' q (sendR S ps) ∧ Chg K V w' := by
  obtain ⟨a1, a2⟩ := ps_none (W := V) (D := K) hp
  exact send_litG h ps cs hcs n hn hn2 a1 a2 hN
/-- A constant string's bytes. -/
theorem bytes_const (W : World) (l : List UInt8) (cs : Array Value) (fr : Nat × Nat) (hcs : flatF byU l = cs.toList) (n : Nat) (hn : l.length = n) (hm : n ≤ maxLen) : Rw byU 1 (W.alloc (.cells cs 5 fr)) (some ⟨W.heap.size, 0, none⟩) n n l := by
  refine ⟨hn, ⟨Nat.le_refl _, hm⟩, fun _ => ⟨W.heap.size, 0, rfl, by simp, fun j x hj i v hv => ?_⟩⟩
  rw [World.cell?_alloc_mark]
  have hi : i < 1 := by
    rcases Nat.lt_or_ge i (byU x).length with h' | h'
    · simpa [byU] using h'
    · rw [List.getElem?_eq_none h'] at hv; cases hv
  have := flatF_get layU l j x hj i hi
  rw [Nat.zero_add, ← Array.getElem?_toList, ← hcs, this, hv]
def S2o (j : Nat) (m : UInt8) : Lk := ⟨3, 1, 1, [spF ⟨0, 2, 2, [120, 121, 122], false⟩ j m]⟩
theorem turn1 (at_ : Int) : turnE S1o 1 at_ 0 = 160 := by simp [turnE, hitF, S1o]
theorem turn1s (at_ : Int) : turnS S1o 1 at_ 0 = S1o := by rw [turnS, turn1]; simp
theorem turn2 (at_ : Int) : turnE S1o 0 at_ 0 = 12 := by simp [turnE, hitF, S1o, spE]
theorem turn2s (at_ : Int) : turnS S1o 0 at_ 0 = S1o := by rw [turnS, turn2]; simp
theorem turn3 (at_ : Int) (h : at_ < 0 ∨ 3 ≤ at_) (m : UInt8) : turnE S1o 0 at_ m = 12 := by
  simp only [turnE, hitF, S1o, List.find?_cons, Int.natCast_zero, decide_true, spE]
  rw [if_pos]; simp only [List.length_cons, List.length_nil]; omega
theorem turn3s (at_ : Int) (h : at_ < 0 ∨ 3 ≤ at_) (m : UInt8) : turnS S1o 0 at_ m = S1o := by rw [turnS, turn3 at_ h]; simp
theorem turn4 (j : Nat) (h : j < 3) (m : UInt8) (hm : m ≠ 0) : turnE S1o 0 (j : Int) m = 0 := by
  simp only [turnE, hitF, S1o, List.find?_cons, Int.natCast_zero, decide_true, spE]
  rw [if_neg]
  · rfl
  · simp only [List.length_cons, List.length_nil, hm, or_false]; omega
theorem turn4s (j : Nat) (h : j < 3) (m : UInt8) (hm : m ≠ 0) : turnS S1o 0 (j : Int) m = S2o j m := by
  rw [turnS, turn4 j h m hm]; simp [S1o, S2o]
theorem turn5 (j i : Nat) (h : i < 3) (m n : UInt8) (hm : m ≠ 0) : turnE (S2o j n) 0 (i : Int) m = 162 := by
  simp only [turnE, hitF, S2o, List.find?_cons, spF, Int.natCast_zero, decide_true, spE]
  rw [if_neg]
  · rfl
  · simp only [List.length_set, List.length_cons, List.length_nil, hm, or_false]; omega
theorem turn5s (j i : Nat) (h : i < 3) (m n : UInt8) (hm : m ≠ 0) : turnS (S2o j n) 0 (i : Int) m = S2o j n := by rw [turnS, turn5 j i h m n hm]; simp
theorem turn6 (j : Nat) (at_ : Int) (h : at_ < 0 ∨ 3 ≤ at_) (m n : UInt8) : turnE (S2o j n) 0 at_ m = 12 := by
  simp only [turnE, hitF, S2o, List.find?_cons, spF, Int.natCast_zero, decide_true, spE]
  rw [if_pos]; simp only [List.length_set, List.length_cons, List.length_nil]; omega
theorem turn6s (j : Nat) (at_ : Int) (h : at_ < 0 ∨ 3 ≤ at_) (m n : UInt8) : turnS (S2o j n) 0 at_ m = S2o j n := by rw [turnS, turn6 j at_ h]; simp
set_option maxHeartbeats 8000000 in
theorem linkOrder_any (node at_ : Int) (w : World) : Calls Try.prog 5 #[.int .i64 node, .int .i64 at_] w fun e w' => e = .returned (.bool true) ∧ Below w.heap.size w w' := by
  have HN : Hid (Calls Try.prog 10 #[.int .i64 3, .int .i64 1] w fun e w' => e = .returned (.tuple #[.pointer (some ⟨w.heap.size, 0, none⟩), .int .i64 0]) ∧ St w (fun g => g = w.heap.size) w' w.heap.size (lk0 3 1)) := st_new 3 1 (by decide) (by decide) (by decide) w
  have D0 : (0 ≤ node ∧ node < 3) ∨ (0 ≤ node ∧ ¬ node < 3) ∨ (¬ 0 ≤ node) := by omega
  obtain ⟨wt, hwt⟩ : ∃ wt, wantV node = wt := ⟨_, rfl⟩
  have HW : Hid (wantV node = wt) := hwt
  clear hwt
  go_enter Try.func5, Try.ntmps5
  go_wp2_with fail
  refine HN.out.mono ?_
  rintro e w1 ⟨rfl, hs⟩
  have HS1 : Hid (St w (fun g => g = w.heap.size) w1 w.heap.size (lk0 3 1)) := hs
  clear hs HN
  obtain ⟨WA, hWA⟩ : ∃ WA, w1.alloc (.cells #[.int .i64 node, .int .i64 1, .slice none 0 0] 36) = WA := ⟨_, rfl⟩
  obtain ⟨WB, hWB⟩ : ∃ WB, WA.alloc (.cells #[.int .i64 1, .int .i64 node, .slice none 0 0] 36) = WB := ⟨_, rfl⟩
  have hBA : Below w1.heap.size w1 WA := by rw [← hWA]; exact (Below.refl _ _).alloc (Nat.le_refl _) _
  have hBB : Below WA.heap.size WA WB := by rw [← hWB]; exact (Below.refl _ _).alloc (Nat.le_refl _) _
  have sA : WA.heap.size = w1.heap.size + 1 := by rw [← hWA]; exact World.size_alloc ..
  have hxA : WB.heap[w1.heap.size]? = some (.cells #[.int .i64 node, .int .i64 1, .slice none 0 0] 36) := (hBB.block _ (by omega)).trans (by rw [← hWA]; exact heap_alloc_new w1 _)
  have hxB : WB.heap[WA.heap.size]? = some (.cells #[.int .i64 1, .int .i64 node, .slice none 0 0] 36) := by rw [← hWB]; exact heap_alloc_new WA _
  obtain ⟨a0, a1, a2⟩ := box3 hxA
  have hSB := (HS1.out.below hBA).below hBB
  have HC2 : Hid (Calls Try.prog 13 #[.pointer (some ⟨w.heap.size, 0, none⟩), .slice (some ⟨WB.heap.size, 0, none⟩) 2 2] (WB.alloc (.cells #[.int .i64 0, .int .i64 0, .slice none 0 0, .int .i64 node, .int .i64 1, .slice none 0 0] 36)) fun e w' => e = .returned (.tuple #[.int .i64 0, .int .i64 wt]) ∧ (∃ K', St w K' w' w.heap.size (lk0 3 1) ∧ ∀ g, K' g → g ≠ WA.heap.size) ∧ w'.heap[WA.heap.size]? = some (.cells #[.int .i64 1, .int .i64 node, .slice none 0 0] 36)) := (send_lit hSB (pA node) _ rfl 2 rfl (by decide) (fun p hp => by simp [pA] at hp; rcases hp with rfl | rfl <;> exact ⟨rfl, rfl, rfl⟩) (by simp [lk0])).mono (by
    rintro e w' ⟨h1, h2, h3⟩
    have e0 := sendE_A node
    have e1 := wantV_ne node
    have hq : WA.heap.size ≠ w.heap.size := by have := HS1.out.new w.heap.size rfl; omega
    refine ⟨by rw [h1, sendV, e0, if_neg e1, HW.out], ⟨_, by rw [sendR, e0, if_neg e1] at h2; exact h2, fun g hg e => ?_⟩, h3.block hxB hq⟩
    rcases hg with hg | hg
    · exact hq (e.symm.trans hg)
    · have := hBB.size; have : WA.heap.size < WB.heap.size := by rw [← hWB]; simp
      simp at hg; omega)
  clear hBA hBB sA hxA hxB hSB HS1 a0 a1 a2
  subst hWB
  subst hWA
  simp only [World.size_alloc] at HC2
  have C0 : (∃ G N1 N2 : Bool, True) := ⟨true, true, true, trivial⟩
  clear C0
  have CASE : ∀ (wv : Int), wt = wv → (wv = 161 ∧ 0 ≤ node ∧ node < 3) ∨ (wv = 170 ∧ 0 ≤ node ∧ ¬ node < 3) ∨ (wv = 170 ∧ ¬ 0 ≤ node) := fun wv e => by
    rw [← e, ← HW.out]; unfold wantV
    rcases D0 with h | h | h
    · exact .inl ⟨if_pos h, h⟩
    · exact .inr (.inl ⟨if_neg (by omega), h.1, by omega⟩)
    · exact .inr (.inr ⟨if_neg (by omega), by omega⟩)
  rcases CASE wt rfl with ⟨e, n0, n1⟩ | ⟨e, n0, n1⟩ | ⟨e, n0⟩
  · subst e
    clear CASE HW D0
    go_wp2_with fail
    refine HC2.out.mono ?_
    rintro e w2 ⟨rfl, ⟨K2, hs2, hk2⟩, hx2⟩
    have HS2 : Hid (St w K2 w2 w.heap.size (lk0 3 1)) := hs2
    obtain ⟨a0, a1, a2⟩ := box3 hx2
    clear hx2 hs2 hk2 HC2
    have C3 := send_lit HS2.out (pB node) #[.int .i64 0, .int .i64 0, .slice none 0 0, .int .i64 1, .int .i64 node, .slice none 0 0] rfl 2 rfl (by decide) (fun p hp => by simp [pB] at hp; rcases hp with rfl | rfl <;> exact ⟨rfl, rfl, rfl⟩) (by simp [lk0])
    rw [sendV, sendR, sendE_B node, if_neg (wantV_ne node), if_neg (wantV_ne node), show wantV node = 161 from by unfold wantV; rw [if_pos (by omega)]] at C3
    have HC3 : Hid (Calls Try.prog 13 #[.pointer (some ⟨w.heap.size, 0, none⟩), .slice (some ⟨w2.heap.size, 0, none⟩) 2 2] (w2.alloc (.cells #[.int .i64 0, .int .i64 0, .slice none 0 0, .int .i64 1, .int .i64 node, .slice none 0 0] 36)) fun e w' => e = .returned (.tuple #[.int .i64 0, .int .i64 161]) ∧ ∃ K', St w K' w' w.heap.size (lk0 3 1)) := C3.mono (by rintro e w' ⟨h1, h2, _⟩; exact ⟨h1, _, h2⟩)
    clear C3 HS2
    go_wp2_with fail
    refine HC3.out.mono ?_
    rintro e w3 ⟨rfl, K3, hs3⟩
    have hcv := Lib.run_convert_bytes_const (P := Try.prog) w3 34 5 #[.int .u8 120, .int .u8 121, .int .u8 122] 3 3 Try.underlying34 Try.underlying5
    obtain ⟨VM, hVM⟩ : ∃ VM, w3.alloc (.cells #[.int .u8 120, .int .u8 121, .int .u8 122] 5 (3, 4)) = VM := ⟨_, rfl⟩
    have hcv2 : (convert 34 34 (.slice (some ⟨w3.heap.size, 0, none⟩) 3 3)).run Try.prog (w3.alloc (.cells #[.int .u8 120, .int .u8 121, .int .u8 122] 5)) = .ok (.slice (some ⟨w3.heap.size, 0, none⟩) 3 3) VM := by rw [← hVM]; exact hcv
    clear hcv
    have hVB : Below w3.heap.size w3 VM := by rw [← hVM]; exact (Below.refl _ _).alloc (Nat.le_refl _) _
    have hVS : VM.heap.size = w3.heap.size + 1 := by rw [← hVM]; exact World.size_alloc ..
    have C4 := send_litG (hs3.below hVB) [⟨2, 2, some ⟨w3.heap.size, 0, none⟩, 3, [120, 121, 122]⟩] #[.int .i64 2, .int .i64 2, .slice (some ⟨w3.heap.size, 0, none⟩) 3 3] rfl 1 rfl (by decide) (fun p hp => by simp at hp; subst hp; exact ⟨hVM ▸ bytes_const w3 [120, 121, 122] _ (3, 4) rfl 3 rfl (by decide), by simp⟩) (fun p hp g hg => by simp at hp; subst hp; cases hg; exact ⟨by simp [hVS], fun e => by have := (hs3.new _ e).2; simp at this⟩) (by simp [lk0])
    have HC4 : Hid (Calls Try.prog 13 #[.pointer (some ⟨w.heap.size, 0, none⟩), .slice (some ⟨VM.heap.size, 0, none⟩) 1 1] (VM.alloc (.cells #[.int .i64 2, .int .i64 2, .slice (some ⟨w3.heap.size, 0, none⟩) 3 3] 36)) fun e w' => e = .returned (.tuple #[.int .i64 0, .int .i64 0]) ∧ ∃ K', St w K' w' w.heap.size S1o) := C4.mono (by
      rintro e w' ⟨h1, h2, _⟩
      exact ⟨h1, _, h2⟩)
    clear C4 hs3 hVB HC3 hVM hVS
    go_wp2_with fail
    refine HC4.out.mono ?_
    rintro e w4 ⟨rfl, K4, hs4⟩
    have HS4 : Hid (St w K4 w4 w.heap.size S1o) := hs4
    clear hs4 HC4
    clear n0 n1
    have DI : (∃ j : Nat, at_ = (j : Int) ∧ j < 3) ∨ (0 ≤ at_ ∧ ¬ at_ < 3) ∨ (¬ 0 ≤ at_) := by
      by_cases h : 0 ≤ at_ ∧ at_ < 3
      · exact .inl ⟨at_.toNat, by omega, by omega⟩
      · omega
    rcases DI with ⟨j, rfl, hj⟩ | ⟨i0, i1⟩ | i0
    · have g0 : (0 : Int) ≤ (j : Int) := by omega
      have g1 : (j : Int) < 3 := by omega
      have C5 := spoilK HS4.out.lnk 1 (j : Int) 0
      rw [turn1, turn1s] at C5
      have HC5 : Hid (Calls Try.prog 14 #[.pointer (some ⟨w.heap.size, 0, none⟩), .int .i64 1, .int .i64 (j : Int), .int .u8 0] w4 fun e w' => e = .returned (.int .i64 (160)) ∧ Lft K4 w4 w.heap.size S1o w') := C5
      clear C5
      go_wp2_with fail
      refine HC5.out.mono ?_
      rintro e w5 ⟨rfl, hl⟩
      obtain ⟨K5, HS5⟩ : ∃ K', Hid (St w K' w5 w.heap.size S1o) := ⟨_, HS4.out.lft hl⟩
      clear hl HC5 HS4
      have C6 := spoilK HS5.out.lnk 0 (j : Int) 0
      rw [turn2, turn2s] at C6
      have HC6 : Hid (Calls Try.prog 14 #[.pointer (some ⟨w.heap.size, 0, none⟩), .int .i64 0, .int .i64 (j : Int), .int .u8 0] w5 fun e w' => e = .returned (.int .i64 (12)) ∧ Lft K5 w5 w.heap.size S1o w') := C6
      clear C6
      go_wp2_with fail
      refine HC6.out.mono ?_
      rintro e w6 ⟨rfl, hl⟩
      obtain ⟨K6, HS6⟩ : ∃ K', Hid (St w K' w6 w.heap.size S1o) := ⟨_, HS5.out.lft hl⟩
      clear hl HC6 HS5
      have C7 := spoilK HS6.out.lnk 0 (j : Int) 7
      rw [turn4 j hj 7 (by decide), turn4s j hj 7 (by decide)] at C7
      have HC7 : Hid (Calls Try.prog 14 #[.pointer (some ⟨w.heap.size, 0, none⟩), .int .i64 0, .int .i64 (j : Int), .int .u8 7] w6 fun e w' => e = .returned (.int .i64 (0)) ∧ Lft K6 w6 w.heap.size (S2o j 7) w') := C7
      clear C7
      go_wp2_with fail
      refine HC7.out.mono ?_
      rintro e w7 ⟨rfl, hl⟩
      obtain ⟨K7, HS7⟩ : ∃ K', Hid (St w K' w7 w.heap.size (S2o j 7)) := ⟨_, HS6.out.lft hl⟩
      clear hl HC7 HS6
      have C8 := spoilK HS7.out.lnk 0 (j : Int) 7
      rw [turn5 j j hj 7 7 (by decide), turn5s j j hj 7 7 (by decide)] at C8
      have HC8 : Hid (Calls Try.prog 14 #[.pointer (some ⟨w.heap.size, 0, none⟩), .int .i64 0, .int .i64 (j : Int), .int .u8 7] w7 fun e w' => e = .returned (.int .i64 (162)) ∧ Lft K7 w7 w.heap.size (S2o j 7) w') := C8
      clear C8
      go_wp2_with fail
      refine HC8.out.mono ?_
      rintro e w8 ⟨rfl, hl⟩
      obtain ⟨K8, HS8⟩ : ∃ K', Hid (St w K' w8 w.heap.size (S2o j 7)) := ⟨_, HS7.out.lft hl⟩
      clear hl HC8 HS7
      go_wp2_with fail
      go_ret
      exact ⟨rfl, HS8.out.bel⟩
    · have HI : Hid (at_ < 0 ∨ 3 ≤ at_) := .inr (by omega)
      have C5 := spoilK HS4.out.lnk 1 at_ 0
      rw [turn1, turn1s] at C5
      have HC5 : Hid (Calls Try.prog 14 #[.pointer (some ⟨w.heap.size, 0, none⟩), .int .i64 1, .int .i64 at_, .int .u8 0] w4 fun e w' => e = .returned (.int .i64 (160)) ∧ Lft K4 w4 w.heap.size S1o w') := C5
      clear C5
      go_wp2_with fail
      refine HC5.out.mono ?_
      rintro e w5 ⟨rfl, hl⟩
      obtain ⟨K5, HS5⟩ : ∃ K', Hid (St w K' w5 w.heap.size S1o) := ⟨_, HS4.out.lft hl⟩
      clear hl HC5 HS4
      have C6 := spoilK HS5.out.lnk 0 at_ 0
      rw [turn2, turn2s] at C6
      have HC6 : Hid (Calls Try.prog 14 #[.pointer (some ⟨w.heap.size, 0, none⟩), .int .i64 0, .int .i64 at_, .int .u8 0] w5 fun e w' => e = .returned (.int .i64 (12)) ∧ Lft K5 w5 w.heap.size S1o w') := C6
      clear C6
      go_wp2_with fail
      refine HC6.out.mono ?_
      rintro e w6 ⟨rfl, hl⟩
      obtain ⟨K6, HS6⟩ : ∃ K', Hid (St w K' w6 w.heap.size S1o) := ⟨_, HS5.out.lft hl⟩
      clear hl HC6 HS5
      have C7 := spoilK HS6.out.lnk 0 at_ 7
      rw [turn3 at_ HI.out 7, turn3s at_ HI.out 7] at C7
      have HC7 : Hid (Calls Try.prog 14 #[.pointer (some ⟨w.heap.size, 0, none⟩), .int .i64 0, .int .i64 at_, .int .u8 7] w6 fun e w' => e = .returned (.int .i64 (12)) ∧ Lft K6 w6 w.heap.size S1o w') := C7
      clear C7
      go_wp2_with fail
      refine HC7.out.mono ?_
      rintro e w7 ⟨rfl, hl⟩
      obtain ⟨K7, HS7⟩ : ∃ K', Hid (St w K' w7 w.heap.size S1o) := ⟨_, HS6.out.lft hl⟩
      clear hl HC7 HS6
      have C8 := spoilK HS7.out.lnk 0 at_ 7
      rw [turn3 at_ HI.out 7, turn3s at_ HI.out 7] at C8
      have HC8 : Hid (Calls Try.prog 14 #[.pointer (some ⟨w.heap.size, 0, none⟩), .int .i64 0, .int .i64 at_, .int .u8 7] w7 fun e w' => e = .returned (.int .i64 (12)) ∧ Lft K7 w7 w.heap.size S1o w') := C8
      clear C8
      go_wp2_with fail
      refine HC8.out.mono ?_
      rintro e w8 ⟨rfl, hl⟩
      obtain ⟨K8, HS8⟩ : ∃ K', Hid (St w K' w8 w.heap.size S1o) := ⟨_, HS7.out.lft hl⟩
      clear hl HC8 HS7
      have C9 := spoilK HS8.out.lnk 0 2 1
      rw [show turnE S1o 0 2 1 = 0 from turn4 2 (by decide) 1 (by decide), show turnS S1o 0 2 1 = S2o 2 1 from turn4s 2 (by decide) 1 (by decide)] at C9
      have HC9 : Hid (Calls Try.prog 14 #[.pointer (some ⟨w.heap.size, 0, none⟩), .int .i64 0, .int .i64 2, .int .u8 1] w8 fun e w' => e = .returned (.int .i64 (0)) ∧ Lft K8 w8 w.heap.size (S2o 2 1) w') := C9
      clear C9
      go_wp2_with fail
      refine HC9.out.mono ?_
      rintro e w9 ⟨rfl, hl⟩
      obtain ⟨K9, HS9⟩ : ∃ K', Hid (St w K' w9 w.heap.size (S2o 2 1)) := ⟨_, HS8.out.lft hl⟩
      clear hl HC9 HS8
      have C10 := spoilK HS9.out.lnk 0 at_ 1
      rw [turn6 2 at_ HI.out 1 1, turn6s 2 at_ HI.out 1 1] at C10
      have HC10 : Hid (Calls Try.prog 14 #[.pointer (some ⟨w.heap.size, 0, none⟩), .int .i64 0, .int .i64 at_, .int .u8 1] w9 fun e w' => e = .returned (.int .i64 (12)) ∧ Lft K9 w9 w.heap.size (S2o 2 1) w') := C10
      clear C10
      go_wp2_with fail
      refine HC10.out.mono ?_
      rintro e w10 ⟨rfl, hl⟩
      obtain ⟨K10, HS10⟩ : ∃ K', Hid (St w K' w10 w.heap.size (S2o 2 1)) := ⟨_, HS9.out.lft hl⟩
      clear hl HC10 HS9
      go_wp2_with fail
      go_ret
      exact ⟨rfl, HS10.out.bel⟩
    · have HI : Hid (at_ < 0 ∨ 3 ≤ at_) := .inl (by omega)
      have C5 := spoilK HS4.out.lnk 1 at_ 0
      rw [turn1, turn1s] at C5
      have HC5 : Hid (Calls Try.prog 14 #[.pointer (some ⟨w.heap.size, 0, none⟩), .int .i64 1, .int .i64 at_, .int .u8 0] w4 fun e w' => e = .returned (.int .i64 (160)) ∧ Lft K4 w4 w.heap.size S1o w') := C5
      clear C5
      go_wp2_with fail
      refine HC5.out.mono ?_
      rintro e w5 ⟨rfl, hl⟩
      obtain ⟨K5, HS5⟩ : ∃ K', Hid (St w K' w5 w.heap.size S1o) := ⟨_, HS4.out.lft hl⟩
      clear hl HC5 HS4
      have C6 := spoilK HS5.out.lnk 0 at_ 0
      rw [turn2, turn2s] at C6
      have HC6 : Hid (Calls Try.prog 14 #[.pointer (some ⟨w.heap.size, 0, none⟩), .int .i64 0, .int .i64 at_, .int .u8 0] w5 fun e w' => e = .returned (.int .i64 (12)) ∧ Lft K5 w5 w.heap.size S1o w') := C6
      clear C6
      go_wp2_with fail
      refine HC6.out.mono ?_
      rintro e w6 ⟨rfl, hl⟩
      obtain ⟨K6, HS6⟩ : ∃ K', Hid (St w K' w6 w.heap.size S1o) := ⟨_, HS5.out.lft hl⟩
      clear hl HC6 HS5
      have C7 := spoilK HS6.out.lnk 0 at_ 7
      rw [turn3 at_ HI.out 7, turn3s at_ HI.out 7] at C7
      have HC7 : Hid (Calls Try.prog 14 #[.pointer (some ⟨w.heap.size, 0, none⟩), .int .i64 0, .int .i64 at_, .int .u8 7] w6 fun e w' => e = .returned (.int .i64 (12)) ∧ Lft K6 w6 w.heap.size S1o w') := C7
      clear C7
      go_wp2_with fail
      refine HC7.out.mono ?_
      rintro e w7 ⟨rfl, hl⟩
      obtain ⟨K7, HS7⟩ : ∃ K', Hid (St w K' w7 w.heap.size S1o) := ⟨_, HS6.out.lft hl⟩
      clear hl HC7 HS6
      have C8 := spoilK HS7.out.lnk 0 at_ 7
      rw [turn3 at_ HI.out 7, turn3s at_ HI.out 7] at C8
      have HC8 : Hid (Calls Try.prog 14 #[.pointer (some ⟨w.heap.size, 0, none⟩), .int .i64 0, .int .i64 at_, .int .u8 7] w7 fun e w' => e = .returned (.int .i64 (12)) ∧ Lft K7 w7 w.heap.size S1o w') := C8
      clear C8
      go_wp2_with fail
      refine HC8.out.mono ?_
      rintro e w8 ⟨rfl, hl⟩
      obtain ⟨K8, HS8⟩ : ∃ K', Hid (St w K' w8 w.heap.size S1o) := ⟨_, HS7.out.lft hl⟩
      clear hl HC8 HS7
      have C9 := spoilK HS8.out.lnk 0 2 1
      rw [show turnE S1o 0 2 1 = 0 from turn4 2 (by decide) 1 (by decide), show turnS S1o 0 2 1 = S2o 2 1 from turn4s 2 (by decide) 1 (by decide)] at C9
      have HC9 : Hid (Calls Try.prog 14 #[.pointer (some ⟨w.heap.size, 0, none⟩), .int .i64 0, .int .i64 2, .int .u8 1] w8 fun e w' => e = .returned (.int .i64 (0)) ∧ Lft K8 w8 w.heap.size (S2o 2 1) w') := C9
      clear C9
      go_wp2_with fail
      refine HC9.out.mono ?_
      rintro e w9 ⟨rfl, hl⟩
      obtain ⟨K9, HS9⟩ : ∃ K', Hid (St w K' w9 w.heap.size (S2o 2 1)) := ⟨_, HS8.out.lft hl⟩
      clear hl HC9 HS8
      have C10 := spoilK HS9.out.lnk 0 at_ 1
      rw [turn6 2 at_ HI.out 1 1, turn6s 2 at_ HI.out 1 1] at C10
      have HC10 : Hid (Calls Try.prog 14 #[.pointer (some ⟨w.heap.size, 0, none⟩), .int .i64 0, .int .i64 at_, .int .u8 1] w9 fun e w' => e = .returned (.int .i64 (12)) ∧ Lft K9 w9 w.heap.size (S2o 2 1) w') := C10
      clear C10
      go_wp2_with fail
      refine HC10.out.mono ?_
      rintro e w10 ⟨rfl, hl⟩
      obtain ⟨K10, HS10⟩ : ∃ K', Hid (St w K' w10 w.heap.size (S2o 2 1)) := ⟨_, HS9.out.lft hl⟩
      clear hl HC10 HS9
      go_wp2_with fail
      go_ret
      exact ⟨rfl, HS10.out.bel⟩
  · subst e
    clear CASE HW D0
    go_wp2_with fail
    refine HC2.out.mono ?_
    rintro e w2 ⟨rfl, ⟨K2, hs2, hk2⟩, hx2⟩
    have HS2 : Hid (St w K2 w2 w.heap.size (lk0 3 1)) := hs2
    obtain ⟨a0, a1, a2⟩ := box3 hx2
    clear hx2 hs2 hk2 HC2
    have C3 := send_lit HS2.out (pB node) #[.int .i64 0, .int .i64 0, .slice none 0 0, .int .i64 1, .int .i64 node, .slice none 0 0] rfl 2 rfl (by decide) (fun p hp => by simp [pB] at hp; rcases hp with rfl | rfl <;> exact ⟨rfl, rfl, rfl⟩) (by simp [lk0])
    rw [sendV, sendR, sendE_B node, if_neg (wantV_ne node), if_neg (wantV_ne node), show wantV node = 170 from by unfold wantV; rw [if_neg (by omega)]] at C3
    have HC3 : Hid (Calls Try.prog 13 #[.pointer (some ⟨w.heap.size, 0, none⟩), .slice (some ⟨w2.heap.size, 0, none⟩) 2 2] (w2.alloc (.cells #[.int .i64 0, .int .i64 0, .slice none 0 0, .int .i64 1, .int .i64 node, .slice none 0 0] 36)) fun e w' => e = .returned (.tuple #[.int .i64 0, .int .i64 170]) ∧ ∃ K', St w K' w' w.heap.size (lk0 3 1)) := C3.mono (by rintro e w' ⟨h1, h2, _⟩; exact ⟨h1, _, h2⟩)
    clear C3 HS2
    go_wp2_with fail
    refine HC3.out.mono ?_
    rintro e w3 ⟨rfl, K3, hs3⟩
    have hcv := Lib.run_convert_bytes_const (P := Try.prog) w3 34 5 #[.int .u8 120, .int .u8 121, .int .u8 122] 3 3 Try.underlying34 Try.underlying5
    obtain ⟨VM, hVM⟩ : ∃ VM, w3.alloc (.cells #[.int .u8 120, .int .u8 121, .int .u8 122] 5 (3, 4)) = VM := ⟨_, rfl⟩
    have hcv2 : (convert 34 34 (.slice (some ⟨w3.heap.size, 0, none⟩) 3 3)).run Try.prog (w3.alloc (.cells #[.int .u8 120, .int .u8 121, .int .u8 122] 5)) = .ok (.slice (some ⟨w3.heap.size, 0, none⟩) 3 3) VM := by rw [← hVM]; exact hcv
    clear hcv
    have hVB : Below w3.heap.size w3 VM := by rw [← hVM]; exact (Below.refl _ _).alloc (Nat.le_refl _) _
    have hVS : VM.heap.size = w3.heap.size + 1 := by rw [← hVM]; exact World.size_alloc ..
    have C4 := send_litG (hs3.below hVB) [⟨2, 2, some ⟨w3.heap.size, 0, none⟩, 3, [120, 121, 122]⟩] #[.int .i64 2, .int .i64 2, .slice (some ⟨w3.heap.size, 0, none⟩) 3 3] rfl 1 rfl (by decide) (fun p hp => by simp at hp; subst hp; exact ⟨hVM ▸ bytes_const w3 [120, 121, 122] _ (3, 4) rfl 3 rfl (by decide), by simp⟩) (fun p hp g hg => by simp at hp; subst hp; cases hg; exact ⟨by simp [hVS], fun e => by have := (hs3.new _ e).2; simp at this⟩) (by simp [lk0])
    have HC4 : Hid (Calls Try.prog 13 #[.pointer (some ⟨w.heap.size, 0, none⟩), .slice (some ⟨VM.heap.size, 0, none⟩) 1 1] (VM.alloc (.cells #[.int .i64 2, .int .i64 2, .slice (some ⟨w3.heap.size, 0, none⟩) 3 3] 36)) fun e w' => e = .returned (.tuple #[.int .i64 0, .int .i64 0]) ∧ ∃ K', St w K' w' w.heap.size S1o) := C4.mono (by
      rintro e w' ⟨h1, h2, _⟩
      exact ⟨h1, _, h2⟩)
    clear C4 hs3 hVB HC3 hVM hVS
    go_wp2_with fail
    refine HC4.out.mono ?_
    rintro e w4 ⟨rfl, K4, hs4⟩
    have HS4 : Hid (St w K4 w4 w.heap.size S1o) := hs4
    clear hs4 HC4
    clear n0 n1
    have DI : (∃ j : Nat, at_ = (j : Int) ∧ j < 3) ∨ (0 ≤ at_ ∧ ¬ at_ < 3) ∨ (¬ 0 ≤ at_) := by
      by_cases h : 0 ≤ at_ ∧ at_ < 3
      · exact .inl ⟨at_.toNat, by omega, by omega⟩
      · omega
    rcases DI with ⟨j, rfl, hj⟩ | ⟨i0, i1⟩ | i0
    · have g0 : (0 : Int) ≤ (j : Int) := by omega
      have g1 : (j : Int) < 3 := by omega
      have C5 := spoilK HS4.out.lnk 1 (j : Int) 0
      rw [turn1, turn1s] at C5
      have HC5 : Hid (Calls Try.prog 14 #[.pointer (some ⟨w.heap.size, 0, none⟩), .int .i64 1, .int .i64 (j : Int), .int .u8 0] w4 fun e w' => e = .returned (.int .i64 (160)) ∧ Lft K4 w4 w.heap.size S1o w') := C5
      clear C5
      go_wp2_with fail
      refine HC5.out.mono ?_
      rintro e w5 ⟨rfl, hl⟩
      obtain ⟨K5, HS5⟩ : ∃ K', Hid (St w K' w5 w.heap.size S1o) := ⟨_, HS4.out.lft hl⟩
      clear hl HC5 HS4
      have C6 := spoilK HS5.out.lnk 0 (j : Int) 0
      rw [turn2, turn2s] at C6
      have HC6 : Hid (Calls Try.prog 14 #[.pointer (some ⟨w.heap.size, 0, none⟩), .int .i64 0, .int .i64 (j : Int), .int .u8 0] w5 fun e w' => e = .returned (.int .i64 (12)) ∧ Lft K5 w5 w.heap.size S1o w') := C6
      clear C6
      go_wp2_with fail
      refine HC6.out.mono ?_
      rintro e w6 ⟨rfl, hl⟩
      obtain ⟨K6, HS6⟩ : ∃ K', Hid (St w K' w6 w.heap.size S1o) := ⟨_, HS5.out.lft hl⟩
      clear hl HC6 HS5
      have C7 := spoilK HS6.out.lnk 0 (j : Int) 7
      rw [turn4 j hj 7 (by decide), turn4s j hj 7 (by decide)] at C7
      have HC7 : Hid (Calls Try.prog 14 #[.pointer (some ⟨w.heap.size, 0, none⟩), .int .i64 0, .int .i64 (j : Int), .int .u8 7] w6 fun e w' => e = .returned (.int .i64 (0)) ∧ Lft K6 w6 w.heap.size (S2o j 7) w') := C7
      clear C7
      go_wp2_with fail
      refine HC7.out.mono ?_
      rintro e w7 ⟨rfl, hl⟩
      obtain ⟨K7, HS7⟩ : ∃ K', Hid (St w K' w7 w.heap.size (S2o j 7)) := ⟨_, HS6.out.lft hl⟩
      clear hl HC7 HS6
      have C8 := spoilK HS7.out.lnk 0 (j : Int) 7
      rw [turn5 j j hj 7 7 (by decide), turn5s j j hj 7 7 (by decide)] at C8
      have HC8 : Hid (Calls Try.prog 14 #[.pointer (some ⟨w.heap.size, 0, none⟩), .int .i64 0, .int .i64 (j : Int), .int .u8 7] w7 fun e w' => e = .returned (.int .i64 (162)) ∧ Lft K7 w7 w.heap.size (S2o j 7) w') := C8
      clear C8
      go_wp2_with fail
      refine HC8.out.mono ?_
      rintro e w8 ⟨rfl, hl⟩
      obtain ⟨K8, HS8⟩ : ∃ K', Hid (St w K' w8 w.heap.size (S2o j 7)) := ⟨_, HS7.out.lft hl⟩
      clear hl HC8 HS7
      go_wp2_with fail
      go_ret
      exact ⟨rfl, HS8.out.bel⟩
    · have HI : Hid (at_ < 0 ∨ 3 ≤ at_) := .inr (by omega)
      have C5 := spoilK HS4.out.lnk 1 at_ 0
      rw [turn1, turn1s] at C5
      have HC5 : Hid (Calls Try.prog 14 #[.pointer (some ⟨w.heap.size, 0, none⟩), .int .i64 1, .int .i64 at_, .int .u8 0] w4 fun e w' => e = .returned (.int .i64 (160)) ∧ Lft K4 w4 w.heap.size S1o w') := C5
      clear C5
      go_wp2_with fail
      refine HC5.out.mono ?_
      rintro e w5 ⟨rfl, hl⟩
      obtain ⟨K5, HS5⟩ : ∃ K', Hid (St w K' w5 w.heap.size S1o) := ⟨_, HS4.out.lft hl⟩
      clear hl HC5 HS4
      have C6 := spoilK HS5.out.lnk 0 at_ 0
      rw [turn2, turn2s] at C6
      have HC6 : Hid (Calls Try.prog 14 #[.pointer (some ⟨w.heap.size, 0, none⟩), .int .i64 0, .int .i64 at_, .int .u8 0] w5 fun e w' => e = .returned (.int .i64 (12)) ∧ Lft K5 w5 w.heap.size S1o w') := C6
      clear C6
      go_wp2_with fail
      refine HC6.out.mono ?_
      rintro e w6 ⟨rfl, hl⟩
      obtain ⟨K6, HS6⟩ : ∃ K', Hid (St w K' w6 w.heap.size S1o) := ⟨_, HS5.out.lft hl⟩
      clear hl HC6 HS5
      have C7 := spoilK HS6.out.lnk 0 at_ 7
      rw [turn3 at_ HI.out 7, turn3s at_ HI.out 7] at C7
      have HC7 : Hid (Calls Try.prog 14 #[.pointer (some ⟨w.heap.size, 0, none⟩), .int .i64 0, .int .i64 at_, .int .u8 7] w6 fun e w' => e = .returned (.int .i64 (12)) ∧ Lft K6 w6 w.heap.size S1o w') := C7
      clear C7
      go_wp2_with fail
      refine HC7.out.mono ?_
      rintro e w7 ⟨rfl, hl⟩
      obtain ⟨K7, HS7⟩ : ∃ K', Hid (St w K' w7 w.heap.size S1o) := ⟨_, HS6.out.lft hl⟩
      clear hl HC7 HS6
      have C8 := spoilK HS7.out.lnk 0 at_ 7
      rw [turn3 at_ HI.out 7, turn3s at_ HI.out 7] at C8
      have HC8 : Hid (Calls Try.prog 14 #[.pointer (some ⟨w.heap.size, 0, none⟩), .int .i64 0, .int .i64 at_, .int .u8 7] w7 fun e w' => e = .returned (.int .i64 (12)) ∧ Lft K7 w7 w.heap.size S1o w') := C8
      clear C8
      go_wp2_with fail
      refine HC8.out.mono ?_
      rintro e w8 ⟨rfl, hl⟩
      obtain ⟨K8, HS8⟩ : ∃ K', Hid (St w K' w8 w.heap.size S1o) := ⟨_, HS7.out.lft hl⟩
      clear hl HC8 HS7
      have C9 := spoilK HS8.out.lnk 0 2 1
      rw [show turnE S1o 0 2 1 = 0 from turn4 2 (by decide) 1 (by decide), show turnS S1o 0 2 1 = S2o 2 1 from turn4s 2 (by decide) 1 (by decide)] at C9
      have HC9 : Hid (Calls Try.prog 14 #[.pointer (some ⟨w.heap.size, 0, none⟩), .int .i64 0, .int .i64 2, .int .u8 1] w8 fun e w' => e = .returned (.int .i64 (0)) ∧ Lft K8 w8 w.heap.size (S2o 2 1) w') := C9
      clear C9
      go_wp2_with fail
      refine HC9.out.mono ?_
      rintro e w9 ⟨rfl, hl⟩
      obtain ⟨K9, HS9⟩ : ∃ K', Hid (St w K' w9 w.heap.size (S2o 2 1)) := ⟨_, HS8.out.lft hl⟩
      clear hl HC9 HS8
      have C10 := spoilK HS9.out.lnk 0 at_ 1
      rw [turn6 2 at_ HI.out 1 1, turn6s 2 at_ HI.out 1 1] at C10
      have HC10 : Hid (Calls Try.prog 14 #[.pointer (some ⟨w.heap.size, 0, none⟩), .int .i64 0, .int .i64 at_, .int .u8 1] w9 fun e w' => e = .returned (.int .i64 (12)) ∧ Lft K9 w9 w.heap.size (S2o 2 1) w') := C10
      clear C10
      go_wp2_with fail
      refine HC10.out.mono ?_
      rintro e w10 ⟨rfl, hl⟩
      obtain ⟨K10, HS10⟩ : ∃ K', Hid (St w K' w10 w.heap.size (S2o 2 1)) := ⟨_, HS9.out.lft hl⟩
      clear hl HC10 HS9
      go_wp2_with fail
      go_ret
      exact ⟨rfl, HS10.out.bel⟩
    · have HI : Hid (at_ < 0 ∨ 3 ≤ at_) := .inl (by omega)
      have C5 := spoilK HS4.out.lnk 1 at_ 0
      rw [turn1, turn1s] at C5
      have HC5 : Hid (Calls Try.prog 14 #[.pointer (some ⟨w.heap.size, 0, none⟩), .int .i64 1, .int .i64 at_, .int .u8 0] w4 fun e w' => e = .returned (.int .i64 (160)) ∧ Lft K4 w4 w.heap.size S1o w') := C5
      clear C5
      go_wp2_with fail
      refine HC5.out.mono ?_
      rintro e w5 ⟨rfl, hl⟩
      obtain ⟨K5, HS5⟩ : ∃ K', Hid (St w K' w5 w.heap.size S1o) := ⟨_, HS4.out.lft hl⟩
      clear hl HC5 HS4
      have C6 := spoilK HS5.out.lnk 0 at_ 0
      rw [turn2, turn2s] at C6
      have HC6 : Hid (Calls Try.prog 14 #[.pointer (some ⟨w.heap.size, 0, none⟩), .int .i64 0, .int .i64 at_, .int .u8 0] w5 fun e w' => e = .returned (.int .i64 (12)) ∧ Lft K5 w5 w.heap.size S1o w') := C6
      clear C6
      go_wp2_with fail
      refine HC6.out.mono ?_
      rintro e w6 ⟨rfl, hl⟩
      obtain ⟨K6, HS6⟩ : ∃ K', Hid (St w K' w6 w.heap.size S1o) := ⟨_, HS5.out.lft hl⟩
      clear hl HC6 HS5
      have C7 := spoilK HS6.out.lnk 0 at_ 7
      rw [turn3 at_ HI.out 7, turn3s at_ HI.out 7] at C7
      have HC7 : Hid (Calls Try.prog 14 #[.pointer (some ⟨w.heap.size, 0, none⟩), .int .i64 0, .int .i64 at_, .int .u8 7] w6 fun e w' => e = .returned (.int .i64 (12)) ∧ Lft K6 w6 w.heap.size S1o w') := C7
      clear C7
      go_wp2_with fail
      refine HC7.out.mono ?_
      rintro e w7 ⟨rfl, hl⟩
      obtain ⟨K7, HS7⟩ : ∃ K', Hid (St w K' w7 w.heap.size S1o) := ⟨_, HS6.out.lft hl⟩
      clear hl HC7 HS6
      have C8 := spoilK HS7.out.lnk 0 at_ 7
      rw [turn3 at_ HI.out 7, turn3s at_ HI.out 7] at C8
      have HC8 : Hid (Calls Try.prog 14 #[.pointer (some ⟨w.heap.size, 0, none⟩), .int .i64 0, .int .i64 at_, .int .u8 7] w7 fun e w' => e = .returned (.int .i64 (12)) ∧ Lft K7 w7 w.heap.size S1o w') := C8
      clear C8
      go_wp2_with fail
      refine HC8.out.mono ?_
      rintro e w8 ⟨rfl, hl⟩
      obtain ⟨K8, HS8⟩ : ∃ K', Hid (St w K' w8 w.heap.size S1o) := ⟨_, HS7.out.lft hl⟩
      clear hl HC8 HS7
      have C9 := spoilK HS8.out.lnk 0 2 1
      rw [show turnE S1o 0 2 1 = 0 from turn4 2 (by decide) 1 (by decide), show turnS S1o 0 2 1 = S2o 2 1 from turn4s 2 (by decide) 1 (by decide)] at C9
      have HC9 : Hid (Calls Try.prog 14 #[.pointer (some ⟨w.heap.size, 0, none⟩), .int .i64 0, .int .i64 2, .int .u8 1] w8 fun e w' => e = .returned (.int .i64 (0)) ∧ Lft K8 w8 w.heap.size (S2o 2 1) w') := C9
      clear C9
      go_wp2_with fail
      refine HC9.out.mono ?_
      rintro e w9 ⟨rfl, hl⟩
      obtain ⟨K9, HS9⟩ : ∃ K', Hid (St w K' w9 w.heap.size (S2o 2 1)) := ⟨_, HS8.out.lft hl⟩
      clear hl HC9 HS8
      have C10 := spoilK HS9.out.lnk 0 at_ 1
      rw [turn6 2 at_ HI.out 1 1, turn6s 2 at_ HI.out 1 1] at C10
      have HC10 : Hid (Calls Try.prog 14 #[.pointer (some ⟨w.heap.size, 0, none⟩), .int .i64 0, .int .i64 at_, .int .u8 1] w9 fun e w' => e = .returned (.int .i64 (12)) ∧ Lft K9 w9 w.heap.size (S2o 2 1) w') := C10
      clear C10
      go_wp2_with fail
      refine HC10.out.mono ?_
      rintro e w10 ⟨rfl, hl⟩
      obtain ⟨K10, HS10⟩ : ∃ K', Hid (St w K' w10 w.heap.size (S2o 2 1)) := ⟨_, HS9.out.lft hl⟩
      clear hl HC10 HS9
      go_wp2_with fail
      go_ret
      exact ⟨rfl, HS10.out.bel⟩
  · subst e
    clear CASE HW D0
    go_wp2_with fail
    refine HC2.out.mono ?_
    rintro e w2 ⟨rfl, ⟨K2, hs2, hk2⟩, hx2⟩
    have HS2 : Hid (St w K2 w2 w.heap.size (lk0 3 1)) := hs2
    obtain ⟨a0, a1, a2⟩ := box3 hx2
    clear hx2 hs2 hk2 HC2
    have C3 := send_lit HS2.out (pB node) #[.int .i64 0, .int .i64 0, .slice none 0 0, .int .i64 1, .int .i64 node, .slice none 0 0] rfl 2 rfl (by decide) (fun p hp => by simp [pB] at hp; rcases hp with rfl | rfl <;> exact ⟨rfl, rfl, rfl⟩) (by simp [lk0])
    rw [sendV, sendR, sendE_B node, if_neg (wantV_ne node), if_neg (wantV_ne node), show wantV node = 170 from by unfold wantV; rw [if_neg (by omega)]] at C3
    have HC3 : Hid (Calls Try.prog 13 #[.pointer (some ⟨w.heap.size, 0, none⟩), .slice (some ⟨w2.heap.size, 0, none⟩) 2 2] (w2.alloc (.cells #[.int .i64 0, .int .i64 0, .slice none 0 0, .int .i64 1, .int .i64 node, .slice none 0 0] 36)) fun e w' => e = .returned (.tuple #[.int .i64 0, .int .i64 170]) ∧ ∃ K', St w K' w' w.heap.size (lk0 3 1)) := C3.mono (by rintro e w' ⟨h1, h2, _⟩; exact ⟨h1, _, h2⟩)
    clear C3 HS2
    go_wp2_with fail
    refine HC3.out.mono ?_
    rintro e w3 ⟨rfl, K3, hs3⟩
    have hcv := Lib.run_convert_bytes_const (P := Try.prog) w3 34 5 #[.int .u8 120, .int .u8 121, .int .u8 122] 3 3 Try.underlying34 Try.underlying5
    obtain ⟨VM, hVM⟩ : ∃ VM, w3.alloc (.cells #[.int .u8 120, .int .u8 121, .int .u8 122] 5 (3, 4)) = VM := ⟨_, rfl⟩
    have hcv2 : (convert 34 34 (.slice (some ⟨w3.heap.size, 0, none⟩) 3 3)).run Try.prog (w3.alloc (.cells #[.int .u8 120, .int .u8 121, .int .u8 122] 5)) = .ok (.slice (some ⟨w3.heap.size, 0, none⟩) 3 3) VM := by rw [← hVM]; exact hcv
    clear hcv
    have hVB : Below w3.heap.size w3 VM := by rw [← hVM]; exact (Below.refl _ _).alloc (Nat.le_refl _) _
    have hVS : VM.heap.size = w3.heap.size + 1 := by rw [← hVM]; exact World.size_alloc ..
    have C4 := send_litG (hs3.below hVB) [⟨2, 2, some ⟨w3.heap.size, 0, none⟩, 3, [120, 121, 122]⟩] #[.int .i64 2, .int .i64 2, .slice (some ⟨w3.heap.size, 0, none⟩) 3 3] rfl 1 rfl (by decide) (fun p hp => by simp at hp; subst hp; exact ⟨hVM ▸ bytes_const w3 [120, 121, 122] _ (3, 4) rfl 3 rfl (by decide), by simp⟩) (fun p hp g hg => by simp at hp; subst hp; cases hg; exact ⟨by simp [hVS], fun e => by have := (hs3.new _ e).2; simp at this⟩) (by simp [lk0])
    have HC4 : Hid (Calls Try.prog 13 #[.pointer (some ⟨w.heap.size, 0, none⟩), .slice (some ⟨VM.heap.size, 0, none⟩) 1 1] (VM.alloc (.cells #[.int .i64 2, .int .i64 2, .slice (some ⟨w3.heap.size, 0, none⟩) 3 3] 36)) fun e w' => e = .returned (.tuple #[.int .i64 0, .int .i64 0]) ∧ ∃ K', St w K' w' w.heap.size S1o) := C4.mono (by
      rintro e w' ⟨h1, h2, _⟩
      exact ⟨h1, _, h2⟩)
    clear C4 hs3 hVB HC3 hVM hVS
    go_wp2_with fail
    refine HC4.out.mono ?_
    rintro e w4 ⟨rfl, K4, hs4⟩
    have HS4 : Hid (St w K4 w4 w.heap.size S1o) := hs4
    clear hs4 HC4
    clear n0
    have DI : (∃ j : Nat, at_ = (j : Int) ∧ j < 3) ∨ (0 ≤ at_ ∧ ¬ at_ < 3) ∨ (¬ 0 ≤ at_) := by
      by_cases h : 0 ≤ at_ ∧ at_ < 3
      · exact .inl ⟨at_.toNat, by omega, by omega⟩
      · omega
    rcases DI with ⟨j, rfl, hj⟩ | ⟨i0, i1⟩ | i0
    · have g0 : (0 : Int) ≤ (j : Int) := by omega
      have g1 : (j : Int) < 3 := by omega
      have C5 := spoilK HS4.out.lnk 1 (j : Int) 0
      rw [turn1, turn1s] at C5
      have HC5 : Hid (Calls Try.prog 14 #[.pointer (some ⟨w.heap.size, 0, none⟩), .int .i64 1, .int .i64 (j : Int), .int .u8 0] w4 fun e w' => e = .returned (.int .i64 (160)) ∧ Lft K4 w4 w.heap.size S1o w') := C5
      clear C5
      go_wp2_with fail
      refine HC5.out.mono ?_
      rintro e w5 ⟨rfl, hl⟩
      obtain ⟨K5, HS5⟩ : ∃ K', Hid (St w K' w5 w.heap.size S1o) := ⟨_, HS4.out.lft hl⟩
      clear hl HC5 HS4
      have C6 := spoilK HS5.out.lnk 0 (j : Int) 0
      rw [turn2, turn2s] at C6
      have HC6 : Hid (Calls Try.prog 14 #[.pointer (some ⟨w.heap.size, 0, none⟩), .int .i64 0, .int .i64 (j : Int), .int .u8 0] w5 fun e w' => e = .returned (.int .i64 (12)) ∧ Lft K5 w5 w.heap.size S1o w') := C6
      clear C6
      go_wp2_with fail
      refine HC6.out.mono ?_
      rintro e w6 ⟨rfl, hl⟩
      obtain ⟨K6, HS6⟩ : ∃ K', Hid (St w K' w6 w.heap.size S1o) := ⟨_, HS5.out.lft hl⟩
      clear hl HC6 HS5
      have C7 := spoilK HS6.out.lnk 0 (j : Int) 7
      rw [turn4 j hj 7 (by decide), turn4s j hj 7 (by decide)] at C7
      have HC7 : Hid (Calls Try.prog 14 #[.pointer (some ⟨w.heap.size, 0, none⟩), .int .i64 0, .int .i64 (j : Int), .int .u8 7] w6 fun e w' => e = .returned (.int .i64 (0)) ∧ Lft K6 w6 w.heap.size (S2o j 7) w') := C7
      clear C7
      go_wp2_with fail
      refine HC7.out.mono ?_
      rintro e w7 ⟨rfl, hl⟩
      obtain ⟨K7, HS7⟩ : ∃ K', Hid (St w K' w7 w.heap.size (S2o j 7)) := ⟨_, HS6.out.lft hl⟩
      clear hl HC7 HS6
      have C8 := spoilK HS7.out.lnk 0 (j : Int) 7
      rw [turn5 j j hj 7 7 (by decide), turn5s j j hj 7 7 (by decide)] at C8
      have HC8 : Hid (Calls Try.prog 14 #[.pointer (some ⟨w.heap.size, 0, none⟩), .int .i64 0, .int .i64 (j : Int), .int .u8 7] w7 fun e w' => e = .returned (.int .i64 (162)) ∧ Lft K7 w7 w.heap.size (S2o j 7) w') := C8
      clear C8
      go_wp2_with fail
      refine HC8.out.mono ?_
      rintro e w8 ⟨rfl, hl⟩
      obtain ⟨K8, HS8⟩ : ∃ K', Hid (St w K' w8 w.heap.size (S2o j 7)) := ⟨_, HS7.out.lft hl⟩
      clear hl HC8 HS7
      go_wp2_with fail
      go_ret
      exact ⟨rfl, HS8.out.bel⟩
    · have HI : Hid (at_ < 0 ∨ 3 ≤ at_) := .inr (by omega)
      have C5 := spoilK HS4.out.lnk 1 at_ 0
      rw [turn1, turn1s] at C5
      have HC5 : Hid (Calls Try.prog 14 #[.pointer (some ⟨w.heap.size, 0, none⟩), .int .i64 1, .int .i64 at_, .int .u8 0] w4 fun e w' => e = .returned (.int .i64 (160)) ∧ Lft K4 w4 w.heap.size S1o w') := C5
      clear C5
      go_wp2_with fail
      refine HC5.out.mono ?_
      rintro e w5 ⟨rfl, hl⟩
      obtain ⟨K5, HS5⟩ : ∃ K', Hid (St w K' w5 w.heap.size S1o) := ⟨_, HS4.out.lft hl⟩
      clear hl HC5 HS4
      have C6 := spoilK HS5.out.lnk 0 at_ 0
      rw [turn2, turn2s] at C6
      have HC6 : Hid (Calls Try.prog 14 #[.pointer (some ⟨w.heap.size, 0, none⟩), .int .i64 0, .int .i64 at_, .int .u8 0] w5 fun e w' => e = .returned (.int .i64 (12)) ∧ Lft K5 w5 w.heap.size S1o w') := C6
      clear C6
      go_wp2_with fail
      refine HC6.out.mono ?_
      rintro e w6 ⟨rfl, hl⟩
      obtain ⟨K6, HS6⟩ : ∃ K', Hid (St w K' w6 w.heap.size S1o) := ⟨_, HS5.out.lft hl⟩
      clear hl HC6 HS5
      have C7 := spoilK HS6.out.lnk 0 at_ 7
      rw [turn3 at_ HI.out 7, turn3s at_ HI.out 7] at C7
      have HC7 : Hid (Calls Try.prog 14 #[.pointer (some ⟨w.heap.size, 0, none⟩), .int .i64 0, .int .i64 at_, .int .u8 7] w6 fun e w' => e = .returned (.int .i64 (12)) ∧ Lft K6 w6 w.heap.size S1o w') := C7
      clear C7
      go_wp2_with fail
      refine HC7.out.mono ?_
      rintro e w7 ⟨rfl, hl⟩
      obtain ⟨K7, HS7⟩ : ∃ K', Hid (St w K' w7 w.heap.size S1o) := ⟨_, HS6.out.lft hl⟩
      clear hl HC7 HS6
      have C8 := spoilK HS7.out.lnk 0 at_ 7
      rw [turn3 at_ HI.out 7, turn3s at_ HI.out 7] at C8
      have HC8 : Hid (Calls Try.prog 14 #[.pointer (some ⟨w.heap.size, 0, none⟩), .int .i64 0, .int .i64 at_, .int .u8 7] w7 fun e w' => e = .returned (.int .i64 (12)) ∧ Lft K7 w7 w.heap.size S1o w') := C8
      clear C8
      go_wp2_with fail
      refine HC8.out.mono ?_
      rintro e w8 ⟨rfl, hl⟩
      obtain ⟨K8, HS8⟩ : ∃ K', Hid (St w K' w8 w.heap.size S1o) := ⟨_, HS7.out.lft hl⟩
      clear hl HC8 HS7
      have C9 := spoilK HS8.out.lnk 0 2 1
      rw [show turnE S1o 0 2 1 = 0 from turn4 2 (by decide) 1 (by decide), show turnS S1o 0 2 1 = S2o 2 1 from turn4s 2 (by decide) 1 (by decide)] at C9
      have HC9 : Hid (Calls Try.prog 14 #[.pointer (some ⟨w.heap.size, 0, none⟩), .int .i64 0, .int .i64 2, .int .u8 1] w8 fun e w' => e = .returned (.int .i64 (0)) ∧ Lft K8 w8 w.heap.size (S2o 2 1) w') := C9
      clear C9
      go_wp2_with fail
      refine HC9.out.mono ?_
      rintro e w9 ⟨rfl, hl⟩
      obtain ⟨K9, HS9⟩ : ∃ K', Hid (St w K' w9 w.heap.size (S2o 2 1)) := ⟨_, HS8.out.lft hl⟩
      clear hl HC9 HS8
      have C10 := spoilK HS9.out.lnk 0 at_ 1
      rw [turn6 2 at_ HI.out 1 1, turn6s 2 at_ HI.out 1 1] at C10
      have HC10 : Hid (Calls Try.prog 14 #[.pointer (some ⟨w.heap.size, 0, none⟩), .int .i64 0, .int .i64 at_, .int .u8 1] w9 fun e w' => e = .returned (.int .i64 (12)) ∧ Lft K9 w9 w.heap.size (S2o 2 1) w') := C10
      clear C10
      go_wp2_with fail
      refine HC10.out.mono ?_
      rintro e w10 ⟨rfl, hl⟩
      obtain ⟨K10, HS10⟩ : ∃ K', Hid (St w K' w10 w.heap.size (S2o 2 1)) := ⟨_, HS9.out.lft hl⟩
      clear hl HC10 HS9
      go_wp2_with fail
      go_ret
      exact ⟨rfl, HS10.out.bel⟩
    · have HI : Hid (at_ < 0 ∨ 3 ≤ at_) := .inl (by omega)
      have C5 := spoilK HS4.out.lnk 1 at_ 0
      rw [turn1, turn1s] at C5
      have HC5 : Hid (Calls Try.prog 14 #[.pointer (some ⟨w.heap.size, 0, none⟩), .int .i64 1, .int .i64 at_, .int .u8 0] w4 fun e w' => e = .returned (.int .i64 (160)) ∧ Lft K4 w4 w.heap.size S1o w') := C5
      clear C5
      go_wp2_with fail
      refine HC5.out.mono ?_
      rintro e w5 ⟨rfl, hl⟩
      obtain ⟨K5, HS5⟩ : ∃ K', Hid (St w K' w5 w.heap.size S1o) := ⟨_, HS4.out.lft hl⟩
      clear hl HC5 HS4
      have C6 := spoilK HS5.out.lnk 0 at_ 0
      rw [turn2, turn2s] at C6
      have HC6 : Hid (Calls Try.prog 14 #[.pointer (some ⟨w.heap.size, 0, none⟩), .int .i64 0, .int .i64 at_, .int .u8 0] w5 fun e w' => e = .returned (.int .i64 (12)) ∧ Lft K5 w5 w.heap.size S1o w') := C6
      clear C6
      go_wp2_with fail
      refine HC6.out.mono ?_
      rintro e w6 ⟨rfl, hl⟩
      obtain ⟨K6, HS6⟩ : ∃ K', Hid (St w K' w6 w.heap.size S1o) := ⟨_, HS5.out.lft hl⟩
      clear hl HC6 HS5
      have C7 := spoilK HS6.out.lnk 0 at_ 7
      rw [turn3 at_ HI.out 7, turn3s at_ HI.out 7] at C7
      have HC7 : Hid (Calls Try.prog 14 #[.pointer (some ⟨w.heap.size, 0, none⟩), .int .i64 0, .int .i64 at_, .int .u8 7] w6 fun e w' => e = .returned (.int .i64 (12)) ∧ Lft K6 w6 w.heap.size S1o w') := C7
      clear C7
      go_wp2_with fail
      refine HC7.out.mono ?_
      rintro e w7 ⟨rfl, hl⟩
      obtain ⟨K7, HS7⟩ : ∃ K', Hid (St w K' w7 w.heap.size S1o) := ⟨_, HS6.out.lft hl⟩
      clear hl HC7 HS6
      have C8 := spoilK HS7.out.lnk 0 at_ 7
      rw [turn3 at_ HI.out 7, turn3s at_ HI.out 7] at C8
      have HC8 : Hid (Calls Try.prog 14 #[.pointer (some ⟨w.heap.size, 0, none⟩), .int .i64 0, .int .i64 at_, .int .u8 7] w7 fun e w' => e = .returned (.int .i64 (12)) ∧ Lft K7 w7 w.heap.size S1o w') := C8
      clear C8
      go_wp2_with fail
      refine HC8.out.mono ?_
      rintro e w8 ⟨rfl, hl⟩
      obtain ⟨K8, HS8⟩ : ∃ K', Hid (St w K' w8 w.heap.size S1o) := ⟨_, HS7.out.lft hl⟩
      clear hl HC8 HS7
      have C9 := spoilK HS8.out.lnk 0 2 1
      rw [show turnE S1o 0 2 1 = 0 from turn4 2 (by decide) 1 (by decide), show turnS S1o 0 2 1 = S2o 2 1 from turn4s 2 (by decide) 1 (by decide)] at C9
      have HC9 : Hid (Calls Try.prog 14 #[.pointer (some ⟨w.heap.size, 0, none⟩), .int .i64 0, .int .i64 2, .int .u8 1] w8 fun e w' => e = .returned (.int .i64 (0)) ∧ Lft K8 w8 w.heap.size (S2o 2 1) w') := C9
      clear C9
      go_wp2_with fail
      refine HC9.out.mono ?_
      rintro e w9 ⟨rfl, hl⟩
      obtain ⟨K9, HS9⟩ : ∃ K', Hid (St w K' w9 w.heap.size (S2o 2 1)) := ⟨_, HS8.out.lft hl⟩
      clear hl HC9 HS8
      have C10 := spoilK HS9.out.lnk 0 at_ 1
      rw [turn6 2 at_ HI.out 1 1, turn6s 2 at_ HI.out 1 1] at C10
      have HC10 : Hid (Calls Try.prog 14 #[.pointer (some ⟨w.heap.size, 0, none⟩), .int .i64 0, .int .i64 at_, .int .u8 1] w9 fun e w' => e = .returned (.int .i64 (12)) ∧ Lft K9 w9 w.heap.size (S2o 2 1) w') := C10
      clear C10
      go_wp2_with fail
      refine HC10.out.mono ?_
      rintro e w10 ⟨rfl, hl⟩
      obtain ⟨K10, HS10⟩ : ∃ K', Hid (St w K' w10 w.heap.size (S2o 2 1)) := ⟨_, HS9.out.lft hl⟩
      clear hl HC10 HS9
      go_wp2_with fail
      go_ret
      exact ⟨rfl, HS10.out.bel⟩
end Go.Proofs.Ytdmhajlhpieedaa
