import Derived.Test.YtdmhajlhpieedaaLcI
/-! A step of the bag, whatever it is; the bytes in flight counted. -/
namespace Go.Proofs.Ytdmhajlhpieedaa
open Go.RowKit Go.Lib Go.Shelf
set_option maxRecDepth 100000

theorem bag_any {W0 W : World} {q : Nat} {v : Value} {L : List Sn} (h : Bg W0 W q (bagS L) v L) (hL : L.length ≤ 3000) (hb : ∀ s ∈ L, s.bs.length ≤ 1048576) (sp : Sp) {ps : List Pk} (hP : PsAt W0 sp.pa sp.pn sp.pc ps) (hPb : ∀ p ∈ ps, p.bs.length ≤ 1048576) :
    Calls Try.prog 18 #[.pointer (some ⟨q, 0, none⟩), v, sp.val] W fun e w' => ∃ v', e = .returned (.tuple #[v', .bool true]) ∧ BagP W0 q L v' w' := by
  obtain ⟨W1, a, n, c, kk, rfl, z⟩ := bz_of h hL sp
  by_cases hk2 : sp.kind = 2
  · exact step_deliver z hL hb hk2
  by_cases hh : ∃ s, L[kk]? = some s ∧ s.here = true
  · obtain ⟨s, hs, hh⟩ := hh
    by_cases hk3 : sp.kind = 3
    · exact step_drop z hL hb hk3 hs hh
    by_cases hk4 : sp.kind = 4
    · exact step_copy z hL hb hk4 hs hh
    by_cases hk5 : sp.kind = 5
    · by_cases h1 : s.sp = true
      · exact step_spoilSp z hL hb hk5 hs hh h1
      · have h1' : s.sp = false := by simpa using h1
        by_cases h2 : s.bs.length = 0
        · exact step_spoilEm z hL hb hk5 hs hh h1' h2
        · by_cases h3 : sp.mask = 0
          · exact step_spoilMk z hL hb hk5 hs hh h1' (by omega) h3
          · exact step_spoil z hL hb hk5 hs hh h1' (by omega) h3
    exact step_send z hL hb hk2 hk3 hk4 hk5 hP hPb
  · have hno : ∀ s, L[kk]? = some s → s.here = false := fun s hs => by
      cases h1 : s.here with
      | false => rfl
      | true => exact absurd ⟨s, hs, h1⟩ hh
    by_cases hk3 : sp.kind = 3
    · exact step_dropNo z hL hb hk3 hno
    by_cases hk4 : sp.kind = 4
    · exact step_copyNo z hL hb hk4 hno
    by_cases hk5 : sp.kind = 5
    · exact step_spoilNo z hL hb hk5 hno
    exact step_send z hL hb hk2 hk3 hk4 hk5 hP hPb
def sumX (xs : List X) : Nat := (xs.map (fun x => x.bs.length)).sum
theorem sumX_succ (xs : List X) (k : Nat) (x : X) (h : xs[k]? = some x) : sumX (xs.take (k + 1)) = sumX (xs.take k) + x.bs.length := by
  unfold sumX
  rw [List.take_add_one, h]
  simp
theorem sumX_take_le (xs : List X) (k : Nat) : sumX (xs.take k) ≤ sumX xs := by
  unfold sumX
  conv => rhs; rw [← List.take_append_drop k xs, List.map_append, List.sum_append]
  omega
/-- the copy of a flight that a range lays -/
theorem xbox (W : World) (v0 v1 v2 : Int) (a : Option Addr) (n c : Nat) (sp : Bool) : ∃ V V2, W.alloc (.cells #[.int .i64 0, .int .i64 0, .int .i64 0, .slice none 0 0, .bool false] 73) = V ∧ ((((V.setCell ⟨W.heap.size, 0, none⟩ (.int .i64 v0)).setCell ⟨W.heap.size, 1, none⟩ (.int .i64 v1)).setCell ⟨W.heap.size, 2, none⟩ (.int .i64 v2)).setCell ⟨W.heap.size, 3, none⟩ (.slice a n c)).setCell ⟨W.heap.size, 4, none⟩ (.bool sp) = V2 ∧ V.heap[W.heap.size]? = some (.cells #[.int .i64 0, .int .i64 0, .int .i64 0, .slice none 0 0, .bool false] 73) ∧ V2.heap[W.heap.size]? = some (.cells #[.int .i64 v0, .int .i64 v1, .int .i64 v2, .slice a n c, .bool sp] 73) ∧ Below W.heap.size W V2 ∧ V2.heap.size = W.heap.size + 1 := by
  obtain ⟨V, hV⟩ : ∃ V, W.alloc (.cells #[.int .i64 0, .int .i64 0, .int .i64 0, .slice none 0 0, .bool false] 73) = V := ⟨_, rfl⟩
  have hVb : Below W.heap.size W V := by rw [← hV]; exact (Below.refl _ _).alloc (Nat.le_refl _) _
  have hVh : V.heap[W.heap.size]? = some (.cells #[.int .i64 0, .int .i64 0, .int .i64 0, .slice none 0 0, .bool false] 73) := by rw [← hV]; exact (MapKept.heap_alloc W _).1
  have hVs : V.heap.size = W.heap.size + 1 := by rw [← hV]; exact World.size_alloc ..
  obtain ⟨V2, h1, h2, h3⟩ := set5 (A := []) (B := []) (o := 0) (by simpa using hVh) rfl (.int .i64 v0) (.int .i64 v1) (.int .i64 v2) (.slice a n c) (.bool sp)
  simp only [Nat.zero_add] at h1
  refine ⟨V, V2, hV, h1, hVh, by simpa using h2, hVb.trans (h3.below (fun x e => by omega) hVb.size), ?_⟩
  rw [← h1]
  simp [hVs]
set_option maxHeartbeats 4000000 in
theorem size_any {W : World} {q : Nat} {S : Lk} {rv : Value} {xs : List X} (h : LinkAt W q S rv xs) (hO : S.Ok) (hs : sumX xs ≤ 4611686018427387904) : Calls Try.prog 32 #[.pointer (some ⟨q, 0, none⟩)] W fun e w' => e = .returned (.int .i64 (sumX xs : Int)) ∧ Below W.heap.size W w' := by
  obtain ⟨a, c, erv, _, _⟩ := h.row.shape
  have hR := h.row
  rw [erv] at hR
  have hRw := hR.rw_ layV
  have hle := h.le hO
  obtain ⟨n, hn⟩ : ∃ n, xs.length = n := ⟨_, rfl⟩
  have b3 := (box4 h.box).2.2.2
  rw [erv, hn] at b3
  have HR : Hid (Rw fv 5 W a n c xs ∧ sumX xs ≤ 4611686018427387904) := ⟨hn ▸ hRw, hs⟩
  obtain ⟨Z, hZ⟩ : ∃ Z, sumX xs = Z := ⟨_, rfl⟩
  have HZ : Hid (sumX xs = Z ∧ xs.length = n) := ⟨hZ, hn⟩
  have hn2 : n ≤ 1048576 := by omega
  rw [hZ]
  clear h hO hR hRw erv hle hs hZ hn
  go_enter Try.func32, Try.ntmps32
  go_wp2_with fail
  go_loopw [3, 11] (fun vs vi wr => ∃ k : Nat, k ≤ n ∧ vi = .int .i64 (k : Int) ∧ vs = .int .i64 (sumX (xs.take k) : Int) ∧ Hid (Below W.heap.size W wr)) (fun _ vi _ => n - (RowKit.intOf vi).toNat)
  case atStart => exact ⟨0, Nat.zero_le _, rfl, by simp [sumX], Below.refl _ _⟩
  case round =>
    obtain ⟨k, hk, rfl, rfl, hS⟩ := hrel
    obtain ⟨sm, hsm⟩ : ∃ sm, sumX (xs.take k) = sm := ⟨_, rfl⟩
    have HSM : Hid (sumX (xs.take k) = sm) := hsm
    rw [hsm]
    clear hsm
    by_cases hlt : k < n
    · have hlt2 : (k : Int) < (n : Int) := by omega
      obtain ⟨g, off, x, ha, hg, hx, hc⟩ := (HR.out.1.below hS.out).at k hlt
      subst ha
      have c0 := hc 0 _ rfl
      have c1 := hc 1 _ rfl
      have c2 := hc 2 _ rfl
      have c3 := hc 3 _ rfl
      have c4 := hc 4 _ rfl
      simp only [Nat.add_zero] at c0
      obtain ⟨V, V2, hV, hV2, hVh, hh, hb, _⟩ := xbox wr (x.num : Int) x.fr x.tt x.a x.bs.length x.cap x.sp
      obtain ⟨⟨u0, u1, u2, u3, u4⟩, z0, z1, z2, z3, z4⟩ := five_cells hVh
      obtain ⟨d0, d1, d2, d3, d4⟩ := box5 hh
      have HB2 : Hid (Below W.heap.size W V2) := hS.out.trans (hb.mono hS.out.size)
      have hsucc := sumX_succ xs k x hx
      have htl := sumX_take_le xs (k + 1)
      have e1 : IntKind.i64.wrap ((k : Int) + 1) = (k : Int) + 1 := IntWalk.i64_in _ (by omega)
      obtain ⟨bl, hbl⟩ : ∃ bl, x.bs.length = bl := ⟨_, rfl⟩
      rw [hbl] at c3 hV2 d3 hsucc
      have e2 : IntKind.i64.wrap ((sm : Int) + (bl : Int)) = (sm : Int) + (bl : Int) := IntWalk.i64_in _ (by have := HR.out.2; have := HSM.out; omega)
      have HE : Hid (sumX (xs.take (k + 1)) = sm + bl) := by show _ = _; rw [hsucc, HSM.out]
      clear hc hx hg hVh hh hb hsucc htl hbl
      go_wp2_with fail
      exact ⟨⟨k + 1, by omega, by simp, by rw [HE.out]; simp, HB2.out⟩, by simp [RowKit.intOf]; omega⟩
    · have hlt2 : ¬ (k : Int) < (n : Int) := by omega
      obtain rfl : k = n := by omega
      have HE : Hid (sm = Z) := by
        show _ = _
        rw [← HSM.out, List.take_of_length_le (by rw [HZ.out.2]; exact Nat.le_refl _), HZ.out.1]
      go_wp2_with fail
      go_ret
      exact ⟨by rw [← HE.out]; rfl, hS.out⟩
end Go.Proofs.Ytdmhajlhpieedaa
