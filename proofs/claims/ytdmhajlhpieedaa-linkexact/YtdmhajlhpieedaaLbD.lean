import Derived.Test.YtdmhajlhpieedaaLbC
/-! LinkFull. -/
namespace Go.Proofs.Ytdmhajlhpieedaa
open Go.RowKit Go.Lib Go.Shelf
set_option maxRecDepth 100000

theorem cutP_run (W : World) (a : Option Addr) (n cap m : Nat) (hm : m ≤ cap) : (Instr.slice 41 (.slice a n cap) none (some (.int .i64 (m : Int))) none).run Try.prog W = .ok (.slice a m cap) W := by
  obtain ⟨i, z, hi, hz, hsz, hby, _⟩ := kindP.info
  have elemP : Try.prog.elem 41 = 36 := by kernel_rfl
  have := run_slice_h (P := Try.prog) W 41 a n cap (by rw [elemP]; exact kindP.under) .i64 (m : Int) (by omega) (by omega)
  rw [this, elemP]
  simp [sizeOf, typeInfo, hi, hsz, sliced]
  cases a with
  | none => simp
  | some q => simp [Addr.add]
/-- What the sends of LinkFull leave: nodes, room, next number, the numbers in flight. -/
structure Fl (S : Lk) (M n : Nat) : Prop where
  nd : S.nodes = 2
  most : S.most = M
  next : S.next = n
  nums : nums S = List.range n
  bs : ∀ f ∈ S.fl, f.bs.length ≤ 1
theorem fl_send {S : Lk} {M n : Nat} (h : Fl S M n) {ls : List Pk} (hl : ∀ p ∈ ls, OneP p) : Fl (sendS S ls) M (n + ls.length) := by
  obtain ⟨h1, h2, h3, h4, h5⟩ := h
  obtain ⟨m1, m2⟩ := sendS_most ls S
  refine ⟨by rw [m2, h1], by rw [m1, h2], by rw [sendS_next, h3], ?_, send_bs ls S 1 h5 (fun p hp => by have := (hl p hp).2.2; omega)⟩
  rw [nums_send, h4, h3, List.range_add]
theorem Fl.len {S : Lk} {M n : Nat} (h : Fl S M n) : S.fl.length = n := by
  have := congrArg List.length h.nums
  simpa [Go.Proofs.Ytdmhajlhpieedaa.nums] using this
theorem Fl.hit {S : Lk} {M n : Nat} (h : Fl S M n) (k : Nat) : (hitF S (k : Int)).isSome = decide (k < n) := by
  have h1 := hit_iff S (k : Int)
  rw [h.nums] at h1
  by_cases hk : k < n
  · rw [decide_eq_true hk, h1]
    exact ⟨k, List.mem_range.2 hk, rfl⟩
  · rw [decide_eq_false hk]
    cases h2 : (hitF S (k : Int)).isSome with
    | false => rfl
    | true =>
      obtain ⟨n', hn', e⟩ := h1.1 h2
      have := List.mem_range.1 hn'
      omega
/-- The link and the packets. -/
def FS (w : World) (q : Nat) (a : Option Addr) (n c : Nat) (ls : List Pk) (S : Lk) (W : World) : Prop := ∃ K, St w K W q S ∧ Ls W K a n c ls
section
variable {w W : World} {q n c M k0 : Nat} {a : Option Addr} {ls : List Pk} {S : Lk}
theorem FS.send (h : FS w q a n c ls S W) (hF : Fl S M k0) (hn : n ≤ 1000) (hk : k0 ≤ 1000) (m : Nat) (hm : m ≤ n) (hfit : k0 + m ≤ M) : Calls Try.prog 13 #[.pointer (some ⟨q, 0, none⟩), .slice a m c] W fun e w' => e = .returned (.tuple #[.int .i64 (k0 : Int), .int .i64 0]) ∧ FS w q a n c ls (sendS S (ls.take m)) w' := by
  obtain ⟨K, h1, h2⟩ := h
  exact send_ls h1 h2 hF.nd hn (by rw [hF.next]; omega) m hm 0 (by rw [if_pos (by rw [hF.len, hF.most]; exact hfit)]) _ (by rw [if_pos rfl]) _ (by rw [if_pos rfl, hF.next])
theorem FS.sendNo (h : FS w q a n c ls S W) (hF : Fl S M k0) (hn : n ≤ 1000) (hk : k0 ≤ 1000) (m : Nat) (hm : m ≤ n) (hfit : ¬ k0 + m ≤ M) : Calls Try.prog 13 #[.pointer (some ⟨q, 0, none⟩), .slice a m c] W fun e w' => e = .returned (.tuple #[.int .i64 0, .int .i64 161]) ∧ FS w q a n c ls S w' := by
  obtain ⟨K, h1, h2⟩ := h
  exact send_ls h1 h2 hF.nd hn (by rw [hF.next]; omega) m hm 161 (by rw [if_neg (by rw [hF.len, hF.most]; exact hfit)]) _ (by rw [if_neg (by decide)]) _ (by rw [if_neg (by decide)])
theorem FS.len (h : FS w q a n c ls S W) (m : Nat) (hm : S.fl.length = m) : Calls Try.prog 11 #[.pointer (some ⟨q, 0, none⟩)] W fun e w' => e = .returned (.int .i64 (m : Int)) ∧ w' = W := by
  obtain ⟨K, h1, h2⟩ := h
  rw [← hm]
  exact lenK h1.lnk
theorem FS.next (h : FS w q a n c ls S W) (m : Nat) (hm : S.next = m) : Calls Try.prog 12 #[.pointer (some ⟨q, 0, none⟩)] W fun e w' => e = .returned (.int .i64 (m : Int)) ∧ w' = W := by
  obtain ⟨K, h1, h2⟩ := h
  rw [← hm]
  exact nextK h1.lnk
theorem FS.copyNo (h : FS w q a n c ls S W) (hF : Fl S M M) (hM : M ≤ 1000) (k : Nat) (z : Int) (hz : z = if k < M then 161 else 160) : Calls Try.prog 16 #[.pointer (some ⟨q, 0, none⟩), .int .i64 (k : Int)] W fun e w' => e = .returned (.tuple #[.int .i64 0, .int .i64 z]) ∧ FS w q a n c ls S w' := by
  obtain ⟨K, h1, h2⟩ := h
  have hh := hF.hit k
  have hl : ¬ S.fl.length < S.most := by rw [hF.len, hF.most]; omega
  have hE : copyE S (k : Int) = z ∧ copyS S (k : Int) = S := by
    unfold copyE copyS
    cases hq : hitF S (k : Int) with
    | none =>
      rw [hq] at hh
      have : ¬ k < M := by simpa using hh.symm
      rw [if_neg this] at hz
      exact ⟨hz.symm, rfl⟩
    | some f =>
      rw [hq] at hh
      have : k < M := by simpa using hh.symm
      rw [if_pos this] at hz
      simp only [if_neg hl]
      exact ⟨hz.symm, trivial⟩
  have hz0 : z ≠ 0 := by rw [hz]; split <;> decide
  refine (copyK h1.lnk (k : Int) (fun f hf => by have := hF.bs f hf; omega) (by rw [hF.next]; omega)).mono ?_
  rintro e w' ⟨e1, e2⟩
  rw [hE.2] at e2
  refine ⟨by rw [e1, copyV, hE.1, if_neg hz0], _, h1.lft e2, h2.lft e2⟩
theorem FS.drop (h : FS w q a n c ls S W) (hF : Fl S M M) (k : Nat) (hk : k < M) : Calls Try.prog 17 #[.pointer (some ⟨q, 0, none⟩), .int .i64 (k : Int)] W fun e w' => e = .returned (.int .i64 0) ∧ FS w q a n c ls (delS S (k : Int)) w' ∧ (delS S (k : Int)).fl.length + 1 = M := by
  obtain ⟨K, h1, h2⟩ := h
  have hh := hF.hit k
  rw [decide_eq_true hk] at hh
  have hd := del_len h1.lnk.1 (k : Int) hh
  rw [hF.len] at hd
  refine (dropK h1.lnk (k : Int)).mono ?_
  rintro e w' ⟨e1, e2⟩
  exact ⟨by rw [e1, dropE, hh]; rfl, ⟨_, h1.lft e2, h2.lft e2⟩, hd⟩
/-- Send of the first packet alone, out of a list that is written out. -/
theorem FS.sendOne (h : FS w q a n c ls S W) (p : Pk) (hp : ls[0]? = some p) (hS : S.nodes = 2) (hN : S.next ≤ 1000) (z : Int) (hz : (if S.fl.length + 1 ≤ S.most then 0 else 161) = z) (S' : Lk) (hS' : (if z = 0 then sendS S [p] else S) = S') : Calls Try.prog 13 #[.pointer (some ⟨q, 0, none⟩), .slice (some ⟨W.heap.size, 0, none⟩) 1 1] (W.alloc (.cells #[.int .i64 p.fr, .int .i64 p.tt, .slice p.a p.bs.length p.cap] 36)) fun e w' => ∃ v : Int, e = .returned (.tuple #[.int .i64 v, .int .i64 z]) ∧ FS w q a n c ls S' w' := by
  obtain ⟨K, h1, h2⟩ := h
  have hpm := List.mem_of_getElem? hp
  have hB : Below W.heap.size W (W.alloc (.cells #[.int .i64 p.fr, .int .i64 p.tt, .slice p.a p.bs.length p.cap] 36)) := (Below.refl _ _).alloc (Nat.le_refl _) _
  have h3 := h1.below hB
  have h4 := h2.below hB
  have hE : sendE S [p] = z := by rw [sendE_one (fun y hy => by simp at hy; subst hy; exact h2.one _ hpm) S hS]; exact hz
  refine (sendK h3.lnk (ps := [p]) ⟨(offF_lit (T := 36) W [p] _ rfl 1 rfl (by decide)).rw_ layP, fun y hy => by simp at hy; subst hy; exact h4.ps.bytes _ hpm⟩ (fun g hg => ?_) (fun y hy => by simp at hy; subst hy; exact h4.bw _ hpm) (by decide) (by omega)).mono ?_
  · cases hg
    exact ⟨by simp, fun e => by have := (h1.new _ e).2; simp at this⟩
  · rintro e w' ⟨e1, e2⟩
    have e3 := h3.lft e2
    rw [sendR, hE, hS'] at e3
    exact ⟨_, by rw [e1, sendV, hE], _, e3, h4.lft e2⟩
end
set_option maxHeartbeats 16000000 in
theorem linkFull_any (most many : Int) (w : World) : Calls Try.prog 6 #[.int .i64 most, .int .i64 many] w fun e w' => e = .returned (.bool true) ∧ Below w.heap.size w w' := by
  have HP0 : Hid (Calls Try.prog 15 #[.int .i64 most, .int .i64 60] w fun e w' => e = .returned (.int .i64 ((pickZ most 60 : Nat) : Int)) ∧ w' = w) := pick_any most 60 (by decide) (by decide) w
  have hM := pickZ_lt most 60 (by decide)
  obtain ⟨M, hMe⟩ : ∃ M, pickZ most 60 = M := ⟨_, rfl⟩
  rw [hMe] at HP0 hM
  clear hMe
  have HN : Hid (Calls Try.prog 10 #[.int .i64 2, .int .i64 (M : Int)] w fun e w' => e = .returned (.tuple #[.pointer (some ⟨w.heap.size, 0, none⟩), .int .i64 0]) ∧ St w (fun g => g = w.heap.size) w' w.heap.size (lk0 2 M)) := st_new 2 M (by decide) (by decide) (by omega) w
  go_enter Try.func6, Try.ntmps6
  go_wp2_with fail
  refine HP0.out.mono ?_
  rintro e w1 ⟨rfl, hw⟩
  obtain rfl := hw.symm
  go_wp2_with fail
  refine HN.out.mono ?_
  rintro e w1 ⟨rfl, hs⟩
  have HM1 : Hid (MkI w (fun g => g = w.heap.size) w.heap.size (lk0 2 M) M w1 (.slice none 0 0) 0) := ⟨hs, fun g hg => by omega, ⟨[], ownF_nil _ _, rfl, fun p hp => by simp at hp⟩, by omega⟩
  clear hs HN HP0
  go_wp2_with fail
  go_loopw [7, 8] (fun v7 v8 wr => ∃ i : Nat, v8 = .int .i64 (i : Int) ∧ i ≤ M + 1 ∧ Hid (MkI w (fun g => g = w.heap.size) w.heap.size (lk0 2 M) M wr v7 i)) (fun _ v8 _ => M + 1 - (RowKit.intOf v8).toNat)
  case atStart => exact ⟨0, rfl, by omega, HM1.out⟩
  case round =>
    obtain ⟨i, rfl, hi, hI⟩ := hrel
    by_cases hlt : i ≤ M
    · have g1 : (i : Int) ≤ (M : Int) := by omega
      obtain ⟨a', c', W9, hr, hI9⟩ := mk_step hI.out hlt hM (UInt8.ofNat i)
      have hb : ((UInt8.ofNat i).toNat : Int) = (i : Int) := by
        rw [UInt8.toNat_ofNat']; omega
      rw [hb] at hr
      have e8 : IntKind.u8.wrap (i : Int) = (i : Int) := by
        have h3 : ∀ n : Int, IntKind.u8.wrap n = n % 256 := fun n => by simp [IntKind.wrap, IntKind.bits, IntKind.signed]
        rw [h3]; omega
      have e1 : IntKind.i64.wrap ((i : Int) + 1) = (i : Int) + 1 := IntWalk.i64_in _ (by omega)
      have HI9 : Hid (MkI w (fun g => g = w.heap.size) w.heap.size (lk0 2 M) M W9 (.slice a' (i + 1) c') (i + 1)) := hI9
      clear hI9 hb
      go_wp2_with (first | (refine wpList_append_hr rfl _ _ 41 rfl _ _ rfl rfl hr ?_) | fail)
      exact ⟨⟨i + 1, by simp, by omega, HI9.out⟩, by simp [RowKit.intOf]; omega⟩
    · have g1 : ¬ (i : Int) ≤ (M : Int) := by omega
      have hiM : i = M + 1 := by omega
      obtain ⟨a, c, ls, rfl, hc1, hc2, hLs⟩ := mk_end hI.out
      have hF0 : Fl (lk0 2 M) M 0 := ⟨rfl, rfl, rfl, rfl, fun f hf => by simp [lk0] at hf⟩
      have HA : Hid (FS w w.heap.size a i c ls (lk0 2 M) wr ∧ i = M + 1 ∧ i ≤ c ∧ c ≤ maxLen ∧ (∀ p ∈ ls, OneP p) ∧ ls.length = i) := ⟨⟨_, hI.out.1, hLs⟩, hiM, hc1, hc2, hLs.one, hLs.ps.row.len⟩
      have C1 := FS.sendNo HA.out.1 hF0 (by omega) (by omega) i (Nat.le_refl _) (by omega)
      have HC1 : Hid (Calls Try.prog 13 #[.pointer (some ⟨w.heap.size, 0, none⟩), .slice a i c] wr fun e w' => e = .returned (.tuple #[.int .i64 0, .int .i64 161]) ∧ FS w w.heap.size a i c ls (lk0 2 M) w') := C1
      have HP1 : Hid (∀ w, Calls Try.prog 15 #[.int .i64 many, .int .i64 ((M : Int) + 1)] w fun e w' => e = .returned (.int .i64 ((pickZ many (M + 1) : Nat) : Int)) ∧ w' = w) := fun w => by
        have h := pick_any many (M + 1) (by omega) (by omega) w
        rw [Int.natCast_add] at h
        exact h
      have hs := pickZ_lt many (M + 1) (by omega)
      obtain ⟨s, hse⟩ : ∃ s, pickZ many (M + 1) = s := ⟨_, rfl⟩
      rw [hse] at HP1 hs
      have eM : IntKind.i64.wrap ((M : Int) + 1) = (M : Int) + 1 := IntWalk.i64_in _ (by omega)
      obtain ⟨d, hd⟩ : ∃ d, M - s = d := ⟨_, rfl⟩
      obtain ⟨u, hu⟩ : ∃ u, d + 1 = u := ⟨_, rfl⟩
      have e2 : IntKind.i64.wrap ((M : Int) - (s : Int)) = (d : Int) := by rw [show (M : Int) - (s : Int) = (d : Int) by omega]; exact IntWalk.i64_in _ (by omega)
      have e3 : IntKind.i64.wrap ((d : Int) + 1) = (u : Int) := by rw [show (d : Int) + 1 = (u : Int) by omega]; exact IntWalk.i64_in _ (by omega)
      have k1 := fun W => cutP_run W a i c s (by omega)
      have k2 := fun W => cutP_run W a i c u (by omega)
      have k3 := fun W => cutP_run W a i c d (by omega)
      have bs : ((s : Int) != (s : Int)) = false := by simp
      have bM : ((M : Int) != (M : Int)) = false := by simp
      have HD : Hid (s ≤ M ∧ d = M - s ∧ u = d + 1) := ⟨by omega, hd.symm, hu.symm⟩
      clear C1 hse hd hu hLs hF0 hiM hc1 hc2 HM1 hI hi hlt
      go_wp2_with fail
      refine HC1.out.mono ?_
      rintro e w2 ⟨rfl, h2⟩
      have HF2 : Hid (FS w w.heap.size a i c ls (lk0 2 M) w2) := h2
      clear h2 HC1
      have L2 : Calls Try.prog 11 #[.pointer (some ⟨w.heap.size, 0, none⟩)] w2 fun e w' => e = .returned (.int .i64 0) ∧ w' = w2 := FS.len HF2.out 0 rfl
      have N2 : Calls Try.prog 12 #[.pointer (some ⟨w.heap.size, 0, none⟩)] w2 fun e w' => e = .returned (.int .i64 0) ∧ w' = w2 := FS.next HF2.out 0 rfl
      go_wp2_with fail
      refine L2.mono ?_
      rintro e w3 ⟨rfl, hw⟩
      obtain rfl := hw.symm
      go_wp2_with fail
      refine N2.mono ?_
      rintro e w3 ⟨rfl, hw⟩
      obtain rfl := hw.symm
      clear L2 N2
      go_wp2_with fail
      refine (HP1.out _).mono ?_
      rintro e w3 ⟨rfl, hw⟩
      obtain rfl := hw.symm
      have hF0 : Hid (Fl (lk0 2 M) M 0) := ⟨rfl, rfl, rfl, rfl, fun f hf => by simp [lk0] at hf⟩
      have HC3 : Hid (Calls Try.prog 13 #[.pointer (some ⟨w.heap.size, 0, none⟩), .slice a s c] w2 fun e w' => e = .returned (.tuple #[.int .i64 0, .int .i64 0]) ∧ FS w w.heap.size a i c ls (sendS (lk0 2 M) (ls.take s)) w') := FS.send HF2.out hF0.out (by have := HA.out; omega) (by omega) s (by have := HA.out; omega) (by omega)
      have hF1 : Hid (Fl (sendS (lk0 2 M) (ls.take s)) M s) := by
        have h := fl_send hF0.out (ls := ls.take s) (fun p hp => HA.out.2.2.2.2.1 p (List.mem_of_mem_take hp))
        have h5 := HA.out
        rw [List.length_take, show 0 + min s ls.length = s by omega] at h
        exact h
      go_wp2_with fail
      refine HC3.out.mono ?_
      rintro e w3 ⟨rfl, h3⟩
      have HF3 : Hid (FS w w.heap.size a i c ls (sendS (lk0 2 M) (ls.take s)) w3) := h3
      clear h3 HC3
      obtain ⟨S1, hS1⟩ : ∃ S1, sendS (lk0 2 M) (ls.take s) = S1 := ⟨_, rfl⟩
      rw [hS1] at HF3 hF1
      clear hS1
      have HC4 : Hid (Calls Try.prog 13 #[.pointer (some ⟨w.heap.size, 0, none⟩), .slice a u c] w3 fun e w' => e = .returned (.tuple #[.int .i64 0, .int .i64 161]) ∧ FS w w.heap.size a i c ls S1 w') := FS.sendNo HF3.out hF1.out (by have := HA.out; omega) (by omega) u (by have := HA.out; have := HD.out; omega) (by have := HD.out; omega)
      go_wp2_with fail
      refine HC4.out.mono ?_
      rintro e w4 ⟨rfl, h4⟩
      have HF4 : Hid (FS w w.heap.size a i c ls S1 w4) := h4
      clear h4 HC4
      have HC5 : Hid (Calls Try.prog 13 #[.pointer (some ⟨w.heap.size, 0, none⟩), .slice a d c] w4 fun e w' => e = .returned (.tuple #[.int .i64 (s : Int), .int .i64 0]) ∧ FS w w.heap.size a i c ls (sendS S1 (ls.take d)) w') := FS.send HF4.out hF1.out (by have := HA.out; omega) (by omega) d (by have := HA.out; have := HD.out; omega) (by have := HD.out; omega)
      have hF2 : Hid (Fl (sendS S1 (ls.take d)) M M) := by
        have h := fl_send hF1.out (ls := ls.take d) (fun p hp => HA.out.2.2.2.2.1 p (List.mem_of_mem_take hp))
        have h5 := HA.out
        have h6 := HD.out
        rw [List.length_take, show s + min d ls.length = M by omega] at h
        exact h
      go_wp2_with fail
      refine HC5.out.mono ?_
      rintro e w5 ⟨rfl, h5⟩
      have HF5 : Hid (FS w w.heap.size a i c ls (sendS S1 (ls.take d)) w5) := h5
      clear h5 HC5
      obtain ⟨S2, hS2⟩ : ∃ S2, sendS S1 (ls.take d) = S2 := ⟨_, rfl⟩
      rw [hS2] at HF5 hF2
      clear hS2
      have L5 := FS.len HF5.out M hF2.out.len
      by_cases hM0 : M = 0
      · subst hM0
        go_wp2_with fail
        refine L5.mono ?_
        rintro e w6 ⟨rfl, hw⟩
        obtain rfl := hw.symm
        go_wp2_with fail
        go_ret
        obtain ⟨K, h1, _⟩ := HF5.out
        exact ⟨rfl, h1.bel⟩
      · have hM1 : ((M : Int) == 0) = false := beq_eq_false_iff_ne.2 (by omega)
        have hM2 : ¬ (M : Int) = 0 := by omega
        have HP2 : Hid (∀ k w, Calls Try.prog 15 #[.int .i64 k, .int .i64 (M : Int)] w fun e w' => e = .returned (.int .i64 ((pickZ k M : Nat) : Int)) ∧ w' = w) := fun k w => pick_any k M (by omega) (by omega) w
        obtain ⟨k1', hk1⟩ : ∃ k, pickZ many M = k := ⟨_, rfl⟩
        have hk1l := pickZ_lt many M (by omega)
        go_wp2_with fail
        refine L5.mono ?_
        rintro e w6 ⟨rfl, hw⟩
        obtain rfl := hw.symm
        go_wp2_with fail
        refine (HP2.out _ _).mono ?_
        rintro e w6 ⟨rfl, hw⟩
        obtain rfl := hw.symm
        rw [hk1] at hk1l ⊢
        clear hk1
        have HC6 : Hid (Calls Try.prog 16 #[.pointer (some ⟨w.heap.size, 0, none⟩), .int .i64 (k1' : Int)] w5 fun e w' => e = .returned (.tuple #[.int .i64 0, .int .i64 161]) ∧ FS w w.heap.size a i c ls S2 w') := FS.copyNo HF5.out hF2.out (by omega) k1' 161 (by rw [if_pos hk1l])
        go_wp2_with fail
        refine HC6.out.mono ?_
        rintro e w6 ⟨rfl, h6⟩
        have HF6 : Hid (FS w w.heap.size a i c ls S2 w6) := h6
        clear h6 HC6
        have HC7 : Hid (Calls Try.prog 16 #[.pointer (some ⟨w.heap.size, 0, none⟩), .int .i64 (M : Int)] w6 fun e w' => e = .returned (.tuple #[.int .i64 0, .int .i64 160]) ∧ FS w w.heap.size a i c ls S2 w') := FS.copyNo HF6.out hF2.out (by omega) M 160 (by rw [if_neg (Nat.lt_irrefl _)])
        go_wp2_with fail
        refine HC7.out.mono ?_
        rintro e w7 ⟨rfl, h7⟩
        have HF7 : Hid (FS w w.heap.size a i c ls S2 w7) := h7
        clear h7 HC7
        go_wp2_with fail
        refine (HP2.out _ _).mono ?_
        rintro e w8 ⟨rfl, hw⟩
        obtain rfl := hw.symm
        have hk2l := pickZ_lt (RowKit.wrap64 (many + 1)) M (by omega)
        obtain ⟨k2', hk2⟩ : ∃ k, pickZ (RowKit.wrap64 (many + 1)) M = k := ⟨_, rfl⟩
        rw [hk2] at hk2l ⊢
        clear hk2 hw
        have HC8 : Hid (Calls Try.prog 17 #[.pointer (some ⟨w.heap.size, 0, none⟩), .int .i64 (k2' : Int)] w7 fun e w' => e = .returned (.int .i64 0) ∧ FS w w.heap.size a i c ls (delS S2 (k2' : Int)) w' ∧ (delS S2 (k2' : Int)).fl.length + 1 = M) := FS.drop HF7.out hF2.out k2' hk2l
        go_wp2_with fail
        refine HC8.out.mono ?_
        rintro e w8 ⟨rfl, h8, hl8⟩
        have hp0 : ∃ p, ls[0]? = some p := ⟨_, List.getElem?_eq_getElem (by have := HA.out; omega)⟩
        obtain ⟨p, hp0⟩ := hp0
        have HPP : Hid (ls[0]? = some p) := hp0
        obtain ⟨S3, hS3⟩ : ∃ S3, delS S2 (k2' : Int) = S3 := ⟨_, rfl⟩
        have hn3 : S3.nodes = 2 ∧ S3.most = M ∧ S3.next = M := by
          rw [← hS3]; exact ⟨hF2.out.nd, hF2.out.most, hF2.out.next⟩
        rw [hS3] at h8 hl8
        have HF8 : Hid (FS w w.heap.size a i c ls S3 w8) := h8
        have HN3 : Hid (S3.nodes = 2 ∧ S3.most = M ∧ S3.next = M ∧ S3.fl.length + 1 = M) := ⟨hn3.1, hn3.2.1, hn3.2.2, hl8⟩
        have HCE : Hid (∀ W S, FS w w.heap.size a i c ls S W → ∃ g off, a = some ⟨g, off, none⟩ ∧ W.cell? ⟨g, off, none⟩ = some (.int .i64 p.fr) ∧ W.cell? ⟨g, off + 1, none⟩ = some (.int .i64 p.tt) ∧ W.cell? ⟨g, off + 2, none⟩ = some (.slice p.a p.bs.length p.cap)) := fun W S h => by
          obtain ⟨K, _, h2⟩ := h
          have h0 : 0 < i := by have := HA.out; omega
          obtain ⟨g, off, x, e1, _, hx, hc⟩ := h2.ps.row.at 0 h0
          rw [HPP.out] at hx
          cases hx
          have c0 := hc 0 _ rfl
          have c1 := hc 1 _ rfl
          have c2 := hc 2 _ rfl
          simp only [Nat.zero_mul, Nat.add_zero] at c0 c1 c2
          exact ⟨g, off, e1, c0, c1, c2⟩
        obtain ⟨g, off, rfl, c0, c1, c2⟩ := HCE.out _ _ h8
        have hi0 : 0 < i := by have := HA.out; omega
        have hi1 : (0 : Int) < (i : Int) := by omega
        have HC9 : Hid (Calls Try.prog 13 #[.pointer (some ⟨w.heap.size, 0, none⟩), .slice (some ⟨w8.heap.size, 0, none⟩) 1 1] (w8.alloc (.cells #[.int .i64 p.fr, .int .i64 p.tt, .slice p.a p.bs.length p.cap] 36)) fun e w' => ∃ v : Int, e = .returned (.tuple #[.int .i64 v, .int .i64 0]) ∧ FS w w.heap.size (some ⟨g, off, none⟩) i c ls (sendS S3 [p]) w') := FS.sendOne h8 p hp0 hn3.1 (by omega) 0 (by rw [if_pos (by omega)]) _ (by rw [if_pos rfl])
        clear h8 hl8 hp0 hS3 hn3 HC8 HF7 HF6 HF5 HF4 HF3 HF2 k1 k2 k3
        obtain ⟨bl, hbl⟩ : ∃ bl, p.bs.length = bl := ⟨_, rfl⟩
        have HBL : Hid (p.bs.length = bl) := hbl
        rw [hbl] at c2 HC9
        clear hbl
        go_wp2_with fail
        refine HC9.out.mono ?_
        rintro e w9 ⟨v9, rfl, h9⟩
        have HF9 : Hid (FS w w.heap.size (some ⟨g, off, none⟩) i c ls (sendS S3 [p]) w9) := h9
        obtain ⟨g', off', ega, d0, d1, d2⟩ := HCE.out _ _ h9
        simp only [Option.some.injEq, Addr.mk.injEq, and_true] at ega
        obtain ⟨rfl, rfl⟩ := ega
        rw [HBL.out] at d2
        have HC10 : Hid (Calls Try.prog 13 #[.pointer (some ⟨w.heap.size, 0, none⟩), .slice (some ⟨w9.heap.size, 0, none⟩) 1 1] (w9.alloc (.cells #[.int .i64 p.fr, .int .i64 p.tt, .slice p.a bl p.cap] 36)) fun e w' => ∃ v : Int, e = .returned (.tuple #[.int .i64 v, .int .i64 161]) ∧ FS w w.heap.size (some ⟨g, off, none⟩) i c ls (sendS S3 [p]) w') := by
          have h3 := HN3.out
          have := FS.sendOne h9 p HPP.out (by simp [sendS, begS, h3]) (by simp [sendS, begS, h3]; omega) 161 (by simp [sendS, begS, h3]) (sendS S3 [p]) (by simp)
          rw [HBL.out] at this
          exact this
        clear h9 HC9
        go_wp2_with fail
        refine HC10.out.mono ?_
        rintro e w10 ⟨v10, rfl, h10⟩
        have HB : Hid (Below w.heap.size w w10) := by
          obtain ⟨K, h1, _⟩ := h10
          exact h1.bel
        have N10 := FS.next h10 (M + 1) (by simp [sendS, begS, HN3.out])
        rw [Int.natCast_add] at N10
        have N11 : Calls Try.prog 12 #[.pointer (some ⟨w.heap.size, 0, none⟩)] w10 fun e w' => e = .returned (.int .i64 ((M : Int) + 1)) ∧ w' = w10 := N10
        clear N10 h10 HC10
        go_wp2_with fail
        refine N11.mono ?_
        rintro e w11 ⟨rfl, hw⟩
        obtain rfl := hw.symm
        go_wp2_with fail
        go_ret
        exact ⟨rfl, HB.out⟩
end Go.Proofs.Ytdmhajlhpieedaa
