import Derived.Test.YtdmhajlhpieedaaLaG
import Derived.BigQuiet
/-! New, Len, Next, isNode, room, find. -/
namespace Go.Proofs.Ytdmhajlhpieedaa
open Go.RowKit Go.Lib Go.Shelf
set_option maxRecDepth 100000

def lk0 (n m : Nat) : Lk := ⟨n, m, 0, []⟩
set_option maxHeartbeats 1000000 in
theorem new_ok (n m : Nat) (h0 : 1 ≤ n) (h1 : n ≤ 9) (h3 : m ≤ 1048576) (w : World) : Calls Try.prog 10 #[.int .i64 (n : Int), .int .i64 (m : Int)] w fun e w' => e = .returned (.tuple #[.pointer (some ⟨w.heap.size, 0, none⟩), .int .i64 0]) ∧ LinkAt w' w.heap.size (lk0 n m) (.slice none 0 0) [] ∧ Below w.heap.size w w' := by
  have g1 : ¬ (n : Int) < 1 := by omega
  have g2 : ¬ 9 < (n : Int) := by omega
  have g3 : ¬ (m : Int) < 0 := by omega
  have g4 : ¬ 1048576 < (m : Int) := by omega
  clear h0 h1 h3
  go_enter Try.func10, Try.ntmps10
  go_wp2_with fail
  go_ret2
  refine ⟨rfl, ⟨?_, .inl ⟨rfl, rfl⟩, fun x hx => by simp at hx, List.Pairwise.nil, rfl⟩, (Below.refl _ _).alloc (Nat.le_refl _) _⟩
  exact (MapKept.heap_alloc w _).1
set_option maxHeartbeats 1000000 in
theorem new_bad (n m : Int) (hb : n < 1 ∨ 9 < n ∨ m < 0 ∨ 1048576 < m) (w : World) : Calls Try.prog 10 #[.int .i64 n, .int .i64 m] w fun e w' => e = .returned (.tuple #[.pointer none, .int .i64 2]) ∧ w' = w := by
  by_cases g1 : n < 1
  · clear hb
    go_enter Try.func10, Try.ntmps10
    go_wp2_with fail
    go_ret2
    exact ⟨rfl, rfl⟩
  · by_cases g2 : 9 < n
    · clear hb
      go_enter Try.func10, Try.ntmps10
      go_wp2_with fail
      go_ret2
      exact ⟨rfl, rfl⟩
    · by_cases g3 : m < 0
      · clear hb
        go_enter Try.func10, Try.ntmps10
        go_wp2_with fail
        go_ret2
        exact ⟨rfl, rfl⟩
      · have g4 : 1048576 < m := by omega
        clear hb
        go_enter Try.func10, Try.ntmps10
        go_wp2_with fail
        go_ret2
        exact ⟨rfl, rfl⟩
section
variable {W : World} {q : Nat} {S : Lk} {rv : Value} {xs : List X}
set_option maxHeartbeats 1000000 in
theorem len_any (h : LinkAt W q S rv xs) : Calls Try.prog 11 #[.pointer (some ⟨q, 0, none⟩)] W fun e w' => e = .returned (.int .i64 (xs.length : Int)) ∧ w' = W := by
  obtain ⟨a, cap, e, _, _⟩ := h.row.shape
  obtain ⟨b0, b1, b2, b3⟩ := box4 h.box
  subst e
  clear h
  go_enter Try.func11, Try.ntmps11
  go_wp2_with fail
  go_ret
  exact ⟨rfl, rfl⟩
set_option maxHeartbeats 1000000 in
theorem next_any (h : LinkAt W q S rv xs) : Calls Try.prog 12 #[.pointer (some ⟨q, 0, none⟩)] W fun e w' => e = .returned (.int .i64 (S.next : Int)) ∧ w' = W := by
  obtain ⟨b0, b1, b2, b3⟩ := box4 h.box
  clear h
  go_enter Try.func12, Try.ntmps12
  go_wp2_with fail
  go_ret
  exact ⟨rfl, rfl⟩
/-- Is it a node? -/
def nodeB (S : Lk) (k : Int) : Bool := decide (0 ≤ k) && decide (k < (S.nodes : Int))
set_option maxHeartbeats 1000000 in
theorem isNode_any (h : LinkAt W q S rv xs) (k : Int) : Calls Try.prog 25 #[.pointer (some ⟨q, 0, none⟩), .int .i64 k] W fun e w' => e = .returned (.bool (nodeB S k)) ∧ w' = W := by
  obtain ⟨b0, b1, b2, b3⟩ := box4 h.box
  obtain ⟨r, hr⟩ : ∃ r, nodeB S k = r := ⟨_, rfl⟩
  rw [hr]
  have hr' : Hid (nodeB S k = r) := hr
  clear h hr
  by_cases g1 : 0 ≤ k
  · by_cases g2 : k < (S.nodes : Int)
    · go_enter Try.func25, Try.ntmps25
      go_wp2_with fail
      go_ret
      exact ⟨by rw [← hr'.out]; simp [nodeB, g1, g2], rfl⟩
    · go_enter Try.func25, Try.ntmps25
      go_wp2_with fail
      go_ret
      exact ⟨by rw [← hr'.out]; simp [nodeB, g2], rfl⟩
  · go_enter Try.func25, Try.ntmps25
    go_wp2_with fail
    go_ret
    exact ⟨by rw [← hr'.out]; unfold nodeB; rw [decide_eq_false (by omega : ¬ 0 ≤ k)]; rfl, rfl⟩
set_option maxHeartbeats 1000000 in
theorem room_any (h : LinkAt W q S rv xs) (hO : S.Ok) : Calls Try.prog 26 #[.pointer (some ⟨q, 0, none⟩)] W fun e w' => e = .returned (.int .i64 ((S.most : Int) - (xs.length : Int))) ∧ Below W.heap.size W w' := by
  obtain ⟨a, cap, e, _, _⟩ := h.row.shape
  obtain ⟨b0, b1, b2, b3⟩ := box4 h.box
  have hl := h.len
  have h1 := hO.most
  have h2 := hO.len
  subst e
  have e1 : IntKind.i64.wrap ((S.most : Int) - (xs.length : Int)) = (S.most : Int) - (xs.length : Int) := IntWalk.i64_in _ (by omega)
  clear h hl
  go_enter Try.func26, Try.ntmps26
  go_wp2_with fail
  go_quiet (fail)
  go_wp2_with fail
  go_ret
  exact ⟨rfl, below_drewN (Below.refl _ _) _⟩
theorem rise_xs (h : LinkAt W q S rv xs) (hO : S.Ok) : xs.Pairwise (fun x y => x.num < y.num) := by
  have := hO.rise
  rw [h.fl, List.pairwise_map] at this
  exact this
theorem numAt_lt {xs : List X} (h : xs.Pairwise (fun x y => x.num < y.num)) {i j : Nat} (hij : i < j) (hj : j < xs.length) : numAt xs i < numAt xs j := by
  have h1 : xs[i]? = some xs[i] := List.getElem?_eq_getElem (by omega)
  have h2 : xs[j]? = some xs[j] := List.getElem?_eq_getElem hj
  rw [numAt_of h1, numAt_of h2]
  have := List.pairwise_iff_getElem.1 h i j (by omega) hj hij
  omega
theorem found_hit {l r : List X} {x : X} {k : Int} {i : Nat} (h : (l ++ x :: r).Pairwise (fun x y => x.num < y.num)) (hk : (x.num : Int) = k) (hF : FoundK (l ++ x :: r) k i) : i = l.length := by
  have hx : numAt (l ++ x :: r) l.length = k := by rw [numAt_of (x := x) (by simp)]; exact hk
  have hl : l.length < (l ++ x :: r).length := by simp
  obtain ⟨h1, h2, h3⟩ := hF
  rcases Nat.lt_trichotomy i l.length with hi | hi | hi
  · have a1 := h3 (by omega)
    have a2 := numAt_lt h hi hl
    omega
  · exact hi
  · have a1 := h2 (by omega)
    rcases Nat.lt_or_ge l.length (i - 1) with h4 | h4
    · have a2 := numAt_lt h h4 (by omega)
      omega
    · have : i - 1 = l.length := by omega
      rw [this] at a1
      omega
set_option maxHeartbeats 1000000 in
theorem find_hit {l r : List X} {x : X} (h : LinkAt W q S rv (l ++ x :: r)) (hO : S.Ok) (k : Int) (hk : (x.num : Int) = k) : Calls Try.prog 28 #[.pointer (some ⟨q, 0, none⟩), .int .i64 k] W fun e w' => e = .returned (.tuple #[.int .i64 (l.length : Int), .int .i64 0]) ∧ Below W.heap.size W w' := by
  have hr := rise_xs h hO
  obtain ⟨a, cap, e, _, _⟩ := h.row.shape
  obtain ⟨b0, b1, b2, b3⟩ := box4 h.box
  have hl := h.len
  have h1 := hO.most
  have h2 := hO.len
  have hR := h.row
  rw [e] at hR
  have HS : Hid (Calls Try.prog 45 #[.slice a (l ++ x :: r).length cap, .int .i64 k, .func (.func 46) #[] #[]] W fun e w' => e = .returned (.tuple #[.int .i64 (l.length : Int), .bool true]) ∧ Below W.heap.size W w') :=
    (search_any (hR.rw_ layV) (by omega) k).mono (by
      rintro e w' ⟨i, rfl, hF, hB⟩
      obtain rfl := found_hit hr hk hF
      refine ⟨?_, hB⟩
      rw [numAt_of (x := x) (by simp)]
      simp [hk])
  obtain ⟨n, hn⟩ : ∃ n, (l ++ x :: r).length = n := ⟨_, rfl⟩
  subst e
  rw [hn] at HS b3
  clear h hl h1 h2 hR hr hn
  go_enter Try.func28, Try.ntmps28
  go_wp2_with fail
  refine HS.out.mono ?_
  rintro e w1 ⟨rfl, hb⟩
  have hb' : Hid (Below W.heap.size W w1) := hb
  clear hb
  go_wp2_with fail
  go_ret2
  exact ⟨rfl, hb'.out⟩
set_option maxHeartbeats 1000000 in
theorem find_miss (h : LinkAt W q S rv xs) (hO : S.Ok) (k : Int) (hk : ∀ x ∈ xs, (x.num : Int) ≠ k) : Calls Try.prog 28 #[.pointer (some ⟨q, 0, none⟩), .int .i64 k] W fun e w' => e = .returned (.tuple #[.int .i64 0, .int .i64 160]) ∧ Below W.heap.size W w' := by
  obtain ⟨a, cap, e, _, _⟩ := h.row.shape
  obtain ⟨b0, b1, b2, b3⟩ := box4 h.box
  have hl := h.len
  have h1 := hO.most
  have h2 := hO.len
  have hR := h.row
  rw [e] at hR
  have HS : Hid (Calls Try.prog 45 #[.slice a xs.length cap, .int .i64 k, .func (.func 46) #[] #[]] W fun e w' => ∃ i : Int, e = .returned (.tuple #[.int .i64 i, .bool false]) ∧ Below W.heap.size W w') :=
    (search_any (hR.rw_ layV) (by omega) k).mono (by
      rintro e w' ⟨i, rfl, hF, hB⟩
      refine ⟨i, ?_, hB⟩
      have : (decide (i < xs.length) && decide (numAt xs i = k)) = false := by
        by_cases hi : i < xs.length
        · have hx : xs[i]? = some xs[i] := List.getElem?_eq_getElem hi
          have := hk xs[i] (List.getElem_mem hi)
          rw [numAt_of hx]
          simp [this]
        · simp [hi]
      rw [this])
  obtain ⟨n, hn⟩ : ∃ n, xs.length = n := ⟨_, rfl⟩
  subst e
  rw [hn] at HS b3
  clear h hl h1 h2 hR hn hk
  go_enter Try.func28, Try.ntmps28
  go_wp2_with fail
  refine HS.out.mono ?_
  rintro e w1 ⟨i, rfl, hb⟩
  have hb' : Hid (Below W.heap.size W w1) := hb
  clear hb
  go_wp2_with fail
  go_ret2
  exact ⟨rfl, hb'.out⟩
end
end Go.Proofs.Ytdmhajlhpieedaa
