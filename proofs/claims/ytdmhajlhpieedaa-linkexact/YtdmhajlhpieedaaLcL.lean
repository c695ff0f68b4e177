import Derived.Test.YtdmhajlhpieedaaLcK
/-! Flights: the walk. -/
namespace Go.Proofs.Ytdmhajlhpieedaa
open Go.RowKit Go.Lib Go.Shelf
set_option maxRecDepth 100000

/-- What Flights hands out: a row of its own, all bytes in one block. -/
def FlP (W : World) (xs : List X) (n go gb : Nat) (W' : World) : Prop := W'.heap[go]? = some (.cells (flatF fv (layX gb 0 xs)).toArray 73) ∧ W'.heap[gb]? = some (.cells (flatF byU (catX xs)).toArray 5) ∧ W.heap.size ≤ go ∧ W.heap.size ≤ gb ∧ Below W.heap.size W W' ∧ xs.length = n
set_option maxHeartbeats 8000000 in
theorem flights_any {W : World} {q : Nat} {S : Lk} {rv : Value} {xs : List X} (h : LinkAt W q S rv xs) (hO : S.Ok) (hs : sumX xs ≤ 281474976710656) : Calls Try.prog 19 #[.pointer (some ⟨q, 0, none⟩)] W fun e w' => ∃ go gb, e = .returned (.slice (some ⟨go, 0, none⟩) S.fl.length S.fl.length) ∧ FlP W xs S.fl.length go gb w' := by
  obtain ⟨a, c, erv, _, _⟩ := h.row.shape
  have hle := h.le hO
  have hlen := h.len
  obtain ⟨n, hn⟩ : ∃ n, xs.length = n := ⟨_, rfl⟩
  rw [← hlen, hn]
  have b3 := (box4 h.box).2.2.2
  rw [erv, hn] at b3
  obtain ⟨Z, hZ⟩ : ∃ Z, sumX xs = Z := ⟨_, rfl⟩
  -- the list
  obtain ⟨iV, hiV, hzV, hszV, hbyV⟩ : ∃ i, Try.prog.info? 73 = some i ∧ i.zero = some (.agg #[.int .i64 0, .int .i64 0, .int .i64 0, .slice none 0 0, .bool false]) ∧ i.size = 5 ∧ i.bytes = 56 := info_parts (by kernel_rfl)
  have hmV := run_make (P := Try.prog) W 52 73 iV _ Try.underlying52 hiV hzV .i64 .i64 (n : Int) (n : Int) (by omega) (by omega) (by rw [hbyV]; omega) (by omega)
  simp only [hszV, Int.toNat_natCast] at hmV
  obtain ⟨W1, hW1⟩ : ∃ W1, W.alloc (.cells (madeCells (Value.agg #[.int .i64 0, .int .i64 0, .int .i64 0, .slice none 0 0, .bool false]).cells (n * 5)) 73) = W1 := ⟨_, rfl⟩
  rw [hW1] at hmV
  have hB1 : Below W.heap.size W W1 := by rw [← hW1]; exact (Below.refl _ _).alloc (Nat.le_refl _) _
  have hs1 : W1.heap.size = W.heap.size + 1 := by rw [← hW1]; exact World.size_alloc ..
  have hx1 : W1.heap[W.heap.size]? = some (.cells (flatF fv (List.replicate n zeroX)).toArray 73) := by
    rw [← hW1, heap_alloc_new, ← madeV]
  have HS : Hid (Calls Try.prog 32 #[.pointer (some ⟨q, 0, none⟩)] W1 fun e w' => e = .returned (.int .i64 (Z : Int)) ∧ Below W1.heap.size W1 w') := by
    have := size_any (h.below hB1) hO (by omega)
    rw [hZ] at this
    exact this
  obtain ⟨iU, hiU, hzU, hszU, hbyU⟩ := info_parts infoU
  have HM : Hid (∀ w : World, (Instr.makeSlice 34 (.int .i64 0) (.int .i64 (Z : Int))).run Try.prog w = .ok (.slice (some ⟨w.heap.size, 0, none⟩) 0 Z) (w.alloc (.cells (madeCells (Value.int .u8 0).cells Z) 5))) := fun w => by
    have hr := run_make (P := Try.prog) w 34 5 iU _ Try.underlying34 hiU hzU .i64 .i64 0 (Z : Int) (by omega) (by omega) (by rw [hbyU]; omega) (by omega)
    simpa [hszU] using hr
  have HL : Hid (LinkAt W q S rv xs ∧ xs.length = n ∧ sumX xs = Z ∧ rv = .slice a n c ∧ S.Ok) := ⟨h, hn, hZ, by rw [erv, hn], hO⟩
  have HX1 : Hid (W1.heap[W.heap.size]? = some (.cells (flatF fv (List.replicate n zeroX)).toArray 73) ∧ Below W.heap.size W W1 ∧ W1.heap.size = W.heap.size + 1) := ⟨hx1, hB1, hs1⟩
  have hn2 : n ≤ 1048576 := by omega
  have hZ2 : Z ≤ 281474976710656 := by omega
  clear h hO hs erv hle hlen hn hZ hiV hzV hszV hbyV hW1 hB1 hs1 hx1 hiU hzU hszU hbyU
  go_enter Try.func19, Try.ntmps19
  go_wp2_with fail
  refine HS.out.mono ?_
  rintro e w2 ⟨rfl, hb2⟩
  have hmU := HM.out w2
  obtain ⟨W3, hW3⟩ : ∃ W3, w2.alloc (.cells (madeCells (Value.int .u8 0).cells Z) 5) = W3 := ⟨_, rfl⟩
  rw [hW3] at hmU
  have hB3 : Below w2.heap.size w2 W3 := by rw [← hW3]; exact (Below.refl _ _).alloc (Nat.le_refl _) _
  have hBW2 : Below W.heap.size W w2 := HX1.out.2.1.trans (hb2.mono (by have := HX1.out.2.2; omega))
  have hBW3 : Below W.heap.size W W3 := hBW2.trans (hB3.mono hBW2.size)
  have hF0 : FI W xs n Z W.heap.size w2.heap.size 0 W3 := by
    refine ⟨hBW3, Nat.le_refl _, hBW2.size, ?_, ?_⟩
    · have h1 := hb2.size
      have h2 := HX1.out.2.2
      rw [hB3.block _ (by omega), hb2.block _ (by omega), HX1.out.1]
      simp [layX]
    · refine ⟨(madeCells (Value.int .u8 0).cells Z).toList, ?_, ?_⟩
      · rw [← hW3, heap_alloc_new]
        simp [catX, flatF]
      · rw [madeU]; simp [sumX]
  obtain ⟨go, hgo⟩ : ∃ go, W.heap.size = go := ⟨_, rfl⟩
  obtain ⟨gb, hgb⟩ : ∃ gb, w2.heap.size = gb := ⟨_, rfl⟩
  rw [hgb] at hF0 hmU
  have HF0 : Hid (FI W xs n Z go gb 0 W3) := by rw [← hgo]; exact hF0
  have d3 : W3.cell? ⟨q, 3, none⟩ = some (.slice a n c) := by rw [(box4 (HL.out.1.below hBW3).box).2.2.2, HL.out.2.2.2.1]
  clear hb2 hB3 hBW2 hBW3 hF0 hW3 HM HX1 HS
  rw [hgo]
  have HRW : Hid (Rw fv 5 W a n c xs) := by
    have h1 := HL.out.1.row
    rw [HL.out.2.2.2.1] at h1
    exact h1.rw_ layV
  go_wp2_with fail
  go_loopw [4, 22] (fun v4 vi wr => ∃ k : Nat, k ≤ n ∧ vi = .int .i64 (k : Int) ∧ v4 = .slice (some ⟨gb, 0, none⟩) (sumX (xs.take k)) Z ∧ Hid (FI W xs n Z go gb k wr)) (fun _ vi _ => n - (RowKit.intOf vi).toNat)
  case atStart => exact ⟨0, Nat.zero_le _, rfl, by simp [sumX], HF0.out⟩
  case round =>
    obtain ⟨k, hk, rfl, rfl, hS⟩ := hrel
    obtain ⟨sm, hsm⟩ : ∃ sm, sumX (xs.take k) = sm := ⟨_, rfl⟩
    have HSM : Hid (sumX (xs.take k) = sm) := hsm
    rw [hsm]
    clear hsm
    by_cases hlt : k < n
    · have hlt2 : (k : Int) < (n : Int) := by omega
      obtain ⟨g, off, x, ha, hg, hx, hc⟩ := (HRW.out.below hS.out.bel).at k hlt
      subst ha
      have c0 := hc 0 _ rfl
      have c1 := hc 1 _ rfl
      have c2 := hc 2 _ rfl
      have c3 := hc 3 _ rfl
      have c4 := hc 4 _ rfl
      simp only [Nat.add_zero] at c0
      obtain ⟨bl, hbl⟩ : ∃ bl, x.bs.length = bl := ⟨_, rfl⟩
      obtain ⟨V, V2, hV, hV2, hVh, hh, hb, hs2⟩ := xbox wr (x.num : Int) x.fr x.tt x.a bl x.cap x.sp
      rw [hbl] at c3
      obtain ⟨⟨u0, u1, u2, u3, u4⟩, z0, z1, z2, z3, z4⟩ := five_cells hVh
      obtain ⟨d0, d1, d2, d3', d4⟩ := box5 hh
      obtain ⟨W3', W4, W5, hr, hx3, hW4, hx4, ⟨⟨p0, p1, p2, p3, p4, q0, q1, q2, q3, q4⟩, qf⟩, hW5, hF5⟩ := FI.step HL.out.1 hS.out hx HL.out.2.1 HL.out.2.2.1 HSM.out hbl hb hs2 hh
      have hsucc := sumX_succ xs k x hx
      have htl := sumX_take_le xs (k + 1)
      rw [HSM.out, hbl] at hsucc
      have hct := fun W => cut3 W gb (sm + bl) Z sm (sm + bl) (by omega) (by have := HL.out.2.2.1; omega)
      obtain ⟨ls, hls⟩ : ∃ ls, sm + bl = ls := ⟨_, rfl⟩
      obtain ⟨o3, ho3⟩ : ∃ o3, (if sm + bl - sm = 0 then 0 else sm) = o3 := ⟨_, rfl⟩
      obtain ⟨l3, hl3⟩ : ∃ l3, sm + bl - sm = l3 := ⟨_, rfl⟩
      rw [ho3, hl3] at hct hW4 hx4 hW5
      rw [hls] at hr hct hsucc
      have b3' := (box5 hx3).2.2.2.1
      have bf3 := Lib.frozen_of_heap hx3 3
      obtain ⟨e0, e1', e2', e3', e4'⟩ := box5 hx4
      have qf0 := qf (k * 5)
      have qf1 := qf (k * 5 + 1)
      have qf2 := qf (k * 5 + 2)
      have qf3 := qf (k * 5 + 3)
      have qf4 := qf (k * 5 + 4)
      have HF5 : Hid (FI W xs n Z go gb (k + 1) W5) := hF5
      have HE : Hid (sumX (xs.take (k + 1)) = ls) := hsucc
      have ek : IntKind.i64.wrap ((k : Int) + 1) = (k : Int) + 1 := IntWalk.i64_in _ (by omega)
      clear hc hx hg hVh hh hb hs2 hx3 hx4 qf hF5 hsucc htl hbl hls ho3 hl3
      go_wp2_with (first | (refine wpList_append_hr rfl _ _ 34 rfl _ _ rfl rfl hr ?_) | fail)
      exact ⟨⟨k + 1, by omega, by simp, by rw [HE.out], HF5.out⟩, by simp [RowKit.intOf]; omega⟩
    · have hlt2 : ¬ (k : Int) < (n : Int) := by omega
      obtain rfl : k = n := by omega
      go_wp2_with fail
      go_ret
      have hF := hS.out
      have htk : xs.take k = xs := List.take_of_length_le (by rw [HL.out.2.1]; exact Nat.le_refl _)
      obtain ⟨h1, h2, h3, h4, post, h5, h6⟩ := hF
      rw [htk, Nat.sub_self] at h4
      rw [htk, HL.out.2.2.1, Nat.sub_self] at h6
      obtain rfl : post = [] := List.length_eq_zero_iff.1 h6
      rw [htk] at h5
      exact ⟨go, rfl, gb, by simpa using h4, by simpa using h5, h2, h3, h1, HL.out.2.1⟩
end Go.Proofs.Ytdmhajlhpieedaa
