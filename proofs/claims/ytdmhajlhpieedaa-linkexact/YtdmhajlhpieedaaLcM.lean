import Derived.Test.YtdmhajlhpieedaaLcL
/-! LinkIsBag. -/
namespace Go.Proofs.Ytdmhajlhpieedaa
open Go.RowKit Go.Lib Go.Shelf
set_option maxRecDepth 100000

def stv (s : Sp) : List Value := [.int .i64 s.kind, .int .i64 s.which, .int .i64 s.k, .int .i64 s.at_, .int .u8 (s.mask.toNat : Int), .slice s.pa s.pn s.pc]
theorem layS : Lay stv 6 := ⟨fun _ => rfl, by decide, fun x u hu => by
  simp only [stv, List.mem_cons, List.not_mem_nil, or_false] at hu
  rcases hu with rfl | rfl | rfl | rfl | rfl | rfl <;> rfl⟩
/-- The script in memory. -/
structure ScAt (W : World) (a : Option Addr) (n c : Nat) (ss : List Sp) : Prop where
  row : Rw stv 6 W a n c ss
  ps : ∀ s ∈ ss, ∃ ps, PsAt W s.pa s.pn s.pc ps ∧ ∀ p ∈ ps, p.bs.length ≤ 1048576
theorem sum_le : ∀ (l : List Fg) (N : Nat), (∀ f ∈ l, f.bs.length ≤ N) → (l.map (fun f => f.bs.length)).sum ≤ l.length * N
  | [], _, _ => by simp
  | f :: l, N, h => by
    have h1 := h f (List.mem_cons_self ..)
    have h2 := sum_le l N (fun x hx => h x (List.mem_cons_of_mem _ hx))
    simp only [List.map_cons, List.sum_cons, List.length_cons, Nat.add_mul]
    omega
theorem Bg.flights {W0 W : World} {q : Nat} {v : Value} {L : List Sn} (h : Bg W0 W q (bagS L) v L) (hL : L.length ≤ 3000) (hb : ∀ s ∈ L, s.bs.length ≤ 1048576) : Calls Try.prog 19 #[.pointer (some ⟨q, 0, none⟩)] W fun e w' => ∃ go, e = .returned (.slice (some ⟨go, 0, none⟩) (hereN L) (hereN L)) ∧ Bg W0 w' q (bagS L) v L := by
  obtain ⟨K, h1, h2⟩ := h.ex
  obtain ⟨hO, rv, xs, hLk, hK⟩ := h1.lnk
  have hfl : (bagS L).fl.length = hereN L := fgs_len L 0
  have hsum : sumX xs ≤ 281474976710656 := by
    have e1 : sumX xs = ((bagS L).fl.map (fun f => f.bs.length)).sum := by rw [hLk.fl, List.map_map]; rfl
    have e2 := sum_le (bagS L).fl 1048576 (fgs_bs L 0 1048576 hb)
    have e3 := hereN_le L
    rw [e1]
    rw [hfl] at e2
    have : hereN L * 1048576 ≤ 3000 * 1048576 := Nat.mul_le_mul_right _ (by omega)
    omega
  refine (flights_any hLk hO hsum).mono ?_
  rintro e w' ⟨go, gb, e1, e2⟩
  rw [hfl] at e1
  exact ⟨go, e1, h.below e2.2.2.2.2.1⟩
def L0 : List Sn := [⟨1, 0, none, 0, 0, [97, 98], false, true⟩, ⟨0, 2, none, 0, 0, [], false, true⟩]
theorem here_take (L : List Sn) (k : Nat) (s : Sn) (h : L[k]? = some s) : hereN (L.take (k + 1)) = hereN (L.take k) + if s.here then 1 else 0 := by
  unfold hereN
  rw [List.take_add_one, h]
  simp only [Option.toList, List.filter_append, List.length_append]
  cases hh : s.here <;> simp [hh]
theorem here_zero (L : List Sn) (h : ∀ (j : Nat) s, L[j]? = some s → s.here = false) : hereN L = 0 := by
  unfold hereN
  rw [List.length_eq_zero_iff, List.filter_eq_nil_iff]
  intro s hs
  obtain ⟨j, hj⟩ := List.getElem?_of_mem hs
  simp [h j s hj]
theorem hide_len (L : List Sn) (k : Nat) : (L.modify k hide).length = L.length := List.length_modify _ _ _
theorem hide_keeps {L : List Sn} {k j : Nat} (h : ∀ s, L[j]? = some s → s.here = false) : ∀ s, (L.modify k hide)[j]? = some s → s.here = false := by
  intro s hs
  rw [List.getElem?_modify] at hs
  cases hq : L[j]? with
  | none => rw [hq] at hs; simp at hs
  | some t =>
    rw [hq] at hs
    simp only [Option.map_eq_map, Option.map_some, Option.some.injEq] at hs
    subst hs
    split
    · rfl
    · exact h t hq
theorem hide_does (L : List Sn) (k : Nat) : ∀ s, (L.modify k hide)[k]? = some s → s.here = false := by
  intro s hs
  rw [List.getElem?_modify] at hs
  cases hq : L[k]? with
  | none => rw [hq] at hs; simp at hs
  | some t =>
    rw [hq] at hs
    simp only [Option.map_eq_map, Option.map_some, Option.some.injEq, if_true] at hs
    subst hs
    rfl
/-- What has been brought: the first i, or the last i. -/
def BrI (W : World) (q : Nat) (v : Value) (m : Nat) (back : Bool) (i : Nat) (wr : World) : Prop := ∃ L, Bg W wr q (bagS L) v L ∧ L.length = m ∧ ∀ (j : Nat) s, (if back then m ≤ j + i else j < i) → L[j]? = some s → s.here = false
theorem BrI.step {W : World} {q : Nat} {v : Value} {m i k : Nat} {back : Bool} {wr : World} (h : BrI W q v m back i wr) (hk : k = if back then m - 1 - i else i) : Calls Try.prog 20 #[.pointer (some ⟨q, 0, none⟩), v, .int .i64 (k : Int)] wr fun e w' => e = .returned (.bool true) ∧ BrI W q v m back (i + 1) w' := by
  obtain ⟨L, hB, hL, hv⟩ := h
  refine (brought_any hB k).mono ?_
  rintro e w' ⟨e1, e2⟩
  refine ⟨e1, _, e2, by rw [List.length_modify, hL], fun j s hj hs => ?_⟩
  by_cases hjk : j = k
  · subst hjk; exact hide_does L j s hs
  · refine hide_keeps (fun s' hs' => hv j s' ?_ hs') s hs
    cases back with
    | true => simp at hj hk ⊢; omega
    | false => simp at hj hk ⊢; omega
set_option maxHeartbeats 16000000 in
theorem linkIsBag_any {W : World} {a : Option Addr} {n c : Nat} {ss : List Sp} (hS : ScAt W a n c ss) (back : Bool) : Calls Try.prog 7 #[.slice a n c, .bool back] W fun e w' => e = .returned (.bool true) ∧ Below W.heap.size W w' := by
  have HN : Hid (Calls Try.prog 10 #[.int .i64 3, .int .i64 4096] W fun e w' => e = .returned (.tuple #[.pointer (some ⟨W.heap.size, 0, none⟩), .int .i64 0]) ∧ St W (fun g => g = W.heap.size) w' W.heap.size (lk0 3 4096)) := st_new 3 4096 (by decide) (by decide) (by decide) W
  have HSC : Hid (ScAt W a n c ss) := hS
  clear hS
  go_enter Try.func7, Try.ntmps7
  go_wp2_with fail
  refine HN.out.mono ?_
  rintro e w1 ⟨rfl, hs1⟩
  have hcv := Lib.run_convert_bytes_const (P := Try.prog) w1 34 5 #[.int .u8 97, .int .u8 98] 2 2 Try.underlying34 Try.underlying5
  obtain ⟨VM, hVM⟩ : ∃ VM, w1.alloc (.cells #[.int .u8 97, .int .u8 98] 5 (2, 3)) = VM := ⟨_, rfl⟩
  have hcv2 : (convert 34 34 (.slice (some ⟨w1.heap.size, 0, none⟩) 2 2)).run Try.prog (w1.alloc (.cells #[.int .u8 97, .int .u8 98] 5)) = .ok (.slice (some ⟨w1.heap.size, 0, none⟩) 2 2) VM := by rw [← hVM]; exact hcv
  clear hcv
  have hVB : Below w1.heap.size w1 VM := by rw [← hVM]; exact (Below.refl _ _).alloc (Nat.le_refl _) _
  have hVS : VM.heap.size = w1.heap.size + 1 := by rw [← hVM]; exact World.size_alloc ..
  have C2 := send_litG (hs1.below hVB) [⟨1, 0, some ⟨w1.heap.size, 0, none⟩, 2, [97, 98]⟩, ⟨0, 2, none, 0, []⟩] #[.int .i64 1, .int .i64 0, .slice (some ⟨w1.heap.size, 0, none⟩) 2 2, .int .i64 0, .int .i64 2, .slice none 0 0] rfl 2 rfl (by decide) (fun p hp => by
      simp at hp
      rcases hp with rfl | rfl
      · exact ⟨hVM ▸ bytes_const w1 [97, 98] _ (2, 3) rfl 2 rfl (by decide), by simp⟩
      · exact ⟨rw_nil _, by simp⟩) (fun p hp g hg => by
      simp at hp
      rcases hp with rfl | rfl
      · cases hg
        exact ⟨by simp [hVS], fun e => by have := (hs1.new _ e).2; simp at this⟩
      · cases hg) (by simp [lk0])
  have HC2 : Hid (Calls Try.prog 13 #[.pointer (some ⟨W.heap.size, 0, none⟩), .slice (some ⟨VM.heap.size, 0, none⟩) 2 2] (VM.alloc (.cells #[.int .i64 1, .int .i64 0, .slice (some ⟨w1.heap.size, 0, none⟩) 2 2, .int .i64 0, .int .i64 2, .slice none 0 0] 36)) fun e w' => e = .returned (.tuple #[.int .i64 0, .int .i64 0]) ∧ ∃ K', St W K' w' W.heap.size (bagS L0)) := C2.mono (by
    rintro e w' ⟨h1, h2, _⟩
    exact ⟨h1, _, h2⟩)
  clear C2 hs1 hVB hVM hVS HN
  go_wp2_with fail
  refine HC2.out.mono ?_
  rintro e w2 ⟨rfl, K2, hs2⟩
  have hB2 : Below w2.heap.size w2 (w2.alloc (.cells #[.int .i64 1, .int .i64 0, .slice none 0 0, .string ⟨#[97, 98]⟩, .bool false, .bool true, .int .i64 0, .int .i64 2, .slice none 0 0, .string ⟨#[]⟩, .bool false, .bool true] 46)) := (Below.refl _ _).alloc (Nat.le_refl _) _
  have HB0 : Hid (Bg W (w2.alloc (.cells #[.int .i64 1, .int .i64 0, .slice none 0 0, .string ⟨#[97, 98]⟩, .bool false, .bool true, .int .i64 0, .int .i64 2, .slice none 0 0, .string ⟨#[]⟩, .bool false, .bool true] 46)) W.heap.size (bagS L0) (.slice (some ⟨w2.heap.size, 0, none⟩) 2 2) L0) := by
    refine ⟨⟨K2, hs2.below hB2, fun g hg e => ?_⟩, rfl, .inr ⟨w2.heap.size, 2, _, rfl, hs2.bel.size, heap_alloc_new w2 _, by decide, by decide, rfl, rfl⟩⟩
    simp [Value.ownBlock] at hg
    subst hg
    have := (hs2.new _ e).2
    omega
  clear hs2 hB2 HC2 hcv2
  go_wp2_with fail
  go_loopw [9, 10, 11] (fun v9 v10 v11 wr => ∃ i : Nat, v11 = .int .i64 (i : Int) ∧ v10 = .bool true ∧ i ≤ 80 ∧ Hid (∃ L, Bg W wr W.heap.size (bagS L) v9 L ∧ L.length ≤ 2 + 20 * i ∧ ∀ s ∈ L, s.bs.length ≤ 1048576)) (fun _ _ v11 _ => 80 - (RowKit.intOf v11).toNat)
  case atStart => exact ⟨0, rfl, rfl, by omega, L0, HB0.out, by simp [L0], fun s hs => by simp [L0] at hs; rcases hs with rfl | rfl <;> simp⟩
  case round =>
    obtain ⟨i, rfl, rfl, hi, hI⟩ := hrel
    by_cases hlt : i < n ∧ i < 80
    · obtain ⟨h1, h2⟩ := hlt
      have j1 : (i : Int) < (n : Int) := by omega
      have j2 : (i : Int) < 80 := by omega
      obtain ⟨L, hB, hL, hb⟩ := hI.out
      obtain ⟨g, off, s, ea, _, hsi, hc⟩ := (HSC.out.row.below hB.bel).at i h1
      have c0 := hc 0 _ rfl
      have c1 := hc 1 _ rfl
      have c2 := hc 2 _ rfl
      have c3 := hc 3 _ rfl
      have c4 := hc 4 _ rfl
      have c5 := hc 5 _ rfl
      simp only [Nat.add_zero] at c0
      subst ea
      obtain ⟨ps, hPs, hPb⟩ := HSC.out.ps s (List.mem_of_getElem? hsi)
      have hbag := bag_any hB (by omega) hb s hPs hPb
      have HBG : Hid (Calls Try.prog 18 #[.pointer (some ⟨W.heap.size, 0, none⟩), u9, .agg #[.int .i64 s.kind, .int .i64 s.which, .int .i64 s.k, .int .i64 s.at_, .int .u8 (s.mask.toNat : Int), .slice s.pa s.pn s.pc]] wr fun e w' => ∃ v', e = .returned (.tuple #[v', .bool true]) ∧ ∃ L, Bg W w' W.heap.size (bagS L) v' L ∧ L.length ≤ 2 + 20 * (i + 1) ∧ ∀ s ∈ L, s.bs.length ≤ 1048576) := hbag.mono (by
        rintro e w' ⟨v', e1, L', e2, e3, e4⟩
        exact ⟨v', e1, L', e2, by omega, e4⟩)
      have ei : IntKind.i64.wrap ((i : Int) + 1) = (i : Int) + 1 := IntWalk.i64_in _ (by omega)
      clear hc hsi hPs hPb hbag hB hL hb hI
      go_wp2_with fail
      refine HBG.out.mono ?_
      rintro e w3 ⟨v', rfl, h3⟩
      have H3 : Hid (∃ L, Bg W w3 W.heap.size (bagS L) v' L ∧ L.length ≤ 2 + 20 * (i + 1) ∧ ∀ s ∈ L, s.bs.length ≤ 1048576) := h3
      clear h3 HBG
      go_wp2_with fail
      exact ⟨⟨i + 1, by simp, rfl, by omega, H3.out⟩, by simp [RowKit.intOf]; omega⟩
    · by_cases hlt2 : i < n
      · have j1 : (i : Int) < (n : Int) := by omega
        have j2 : ¬ (i : Int) < 80 := by omega
        obtain ⟨L, hB, hL, hb⟩ := hI.out
        obtain ⟨a9, c9, e9, _, _⟩ := hB.shape
        obtain ⟨m, hm⟩ : ∃ m, L.length = m := ⟨_, rfl⟩
        rw [hm] at e9
        subst e9
        have HB : Hid (Bg W wr W.heap.size (bagS L) (.slice a9 m c9) L ∧ L.length = m ∧ L.length ≤ 2 + 20 * i ∧ ∀ s ∈ L, s.bs.length ≤ 1048576) := ⟨hB, hm, hL, hb⟩
        have hm2 : m ≤ 1602 := by omega
        obtain ⟨wo, hwo⟩ : ∃ wo, wo = wr := ⟨_, rfl⟩
        subst hwo
        clear hB hL hb hm hI
        go_wp2_with fail
        go_loopw [12, 13] (fun v12 v13 w => ∃ k : Nat, k ≤ m ∧ v13 = .int .i64 (k : Int) ∧ v12 = .int .i64 (hereN (L.take k) : Int) ∧ w = wo) (fun _ v13 _ => m - (RowKit.intOf v13).toNat)
        case atStart => exact ⟨0, Nat.zero_le _, rfl, by simp [hereN], rfl⟩
        case round =>
          obtain ⟨k, hk, rfl, rfl, hww⟩ := hrel
          obtain rfl := hww.symm
          clear hww
          obtain ⟨hn0, hhn⟩ : ∃ h0, hereN (L.take k) = h0 := ⟨_, rfl⟩
          have HHN : Hid (hereN (L.take k) = hn0) := hhn
          have hle : hn0 ≤ m := by
            have h1 := hereN_le (L.take k)
            rw [List.length_take] at h1
            omega
          rw [hhn]
          clear hhn
          by_cases hkm : k < m
          · have j3 : (k : Int) < (m : Int) := by omega
            have hsk : ∃ s, L[k]? = some s := ⟨_, List.getElem?_eq_getElem (by rw [HB.out.2.1]; exact hkm)⟩
            obtain ⟨s, hsk⟩ := hsk
            obtain ⟨g, c', ev, _, ⟨_, _, _, _, _, k5⟩, _⟩ := HB.out.1.at hsk
            simp only [Value.slice.injEq] at ev
            obtain ⟨rfl, -, rfl⟩ := ev
            have hst := here_take L k s hsk
            have ek : IntKind.i64.wrap ((k : Int) + 1) = (k : Int) + 1 := IntWalk.i64_in _ (by omega)
            have eh : IntKind.i64.wrap ((hn0 : Int) + 1) = (hn0 : Int) + 1 := IntWalk.i64_in _ (by omega)
            cases hh : s.here with
            | true =>
              rw [hh] at k5 hst
              have HST : Hid (hereN (L.take (k + 1)) = hn0 + 1) := by show _ = _; rw [hst, HHN.out]; rfl
              clear hst hsk hh
              go_wp2_with fail
              exact ⟨⟨k + 1, by omega, by simp, by rw [HST.out]; simp, trivial⟩, by simp [RowKit.intOf]; omega⟩
            | false =>
              rw [hh] at k5 hst
              have HST : Hid (hereN (L.take (k + 1)) = hn0) := by show _ = _; rw [hst, HHN.out]; rfl
              clear hst hsk hh
              go_wp2_with fail
              exact ⟨⟨k + 1, by omega, by simp, by rw [HST.out], trivial⟩, by simp [RowKit.intOf]; omega⟩
          · have j3 : ¬ (k : Int) < (m : Int) := by omega
            obtain rfl : k = m := by omega
            have hhe : hn0 = hereN L := by rw [← HHN.out, List.take_of_length_le (by rw [HB.out.2.1]; exact Nat.le_refl _)]
            have L1 : Calls Try.prog 11 #[.pointer (some ⟨W.heap.size, 0, none⟩)] wo fun e w' => e = .returned (.int .i64 (hn0 : Int)) ∧ w' = wo := by
              have h1 := HB.out.1.len
              rw [show (bagS L).fl.length = hn0 by rw [hhe]; exact fgs_len L 0] at h1
              exact h1
            have N1 : Calls Try.prog 12 #[.pointer (some ⟨W.heap.size, 0, none⟩)] wo fun e w' => e = .returned (.int .i64 (k : Int)) ∧ w' = wo := by
              have h1 := HB.out.1.next
              rw [show (bagS L).next = k from HB.out.2.1] at h1
              exact h1
            have F1 : Hid (Calls Try.prog 19 #[.pointer (some ⟨W.heap.size, 0, none⟩)] wo fun e w' => ∃ go, e = .returned (.slice (some ⟨go, 0, none⟩) hn0 hn0) ∧ BrI W W.heap.size (.slice a9 k c9) k back 0 w') := by
              have h1 := HB.out.1.flights (by have := HB.out; omega) HB.out.2.2.2
              rw [← hhe] at h1
              refine h1.mono ?_
              rintro e w' ⟨go, e1, e2⟩
              refine ⟨go, e1, L, e2, HB.out.2.1, fun j s hj hs => ?_⟩
              have hjl := (List.getElem?_eq_some_iff.1 hs).1
              have hlm := HB.out.2.1
              cases back with
              | true => simp at hj; omega
              | false => simp at hj
            have bh : ((hn0 : Int) != (hn0 : Int)) = false := by simp
            have bk : ((k : Int) != (k : Int)) = false := by simp
            have bk2 : ((k : Int) == (k : Int)) = true := by simp
            clear hhe
            go_wp2_with fail
            refine L1.mono ?_
            rintro e w3 ⟨rfl, hw⟩
            obtain rfl := hw.symm
            go_wp2_with fail
            refine N1.mono ?_
            rintro e w3 ⟨rfl, hw⟩
            obtain rfl := hw.symm
            go_wp2_with fail
            refine F1.out.mono ?_
            rintro e w3 ⟨go, rfl, h3⟩
            have H3 : Hid (BrI W W.heap.size (.slice a9 k c9) k back 0 w3) := h3
            clear h3 F1 L1 N1 HB HHN
            go_wp2_with fail
            go_loopw [14] (fun v14 w => ∃ p : Nat, p ≤ k ∧ v14 = .int .i64 (p : Int) ∧ Hid (BrI W W.heap.size (.slice a9 k c9) k back p w)) (fun v14 _ => k - (RowKit.intOf v14).toNat)
            case atStart => exact ⟨0, Nat.zero_le _, rfl, H3.out⟩
            case round =>
              obtain ⟨p, hp, rfl, hPI⟩ := hrel
              by_cases hpk : p < k
              · have j4 : (p : Int) < (k : Int) := by omega
                have ep : IntKind.i64.wrap ((p : Int) + 1) = (p : Int) + 1 := IntWalk.i64_in _ (by omega)
                cases back with
                | true =>
                  obtain ⟨k1, hk1⟩ : ∃ k1, k - 1 = k1 := ⟨_, rfl⟩
                  obtain ⟨k2, hk2⟩ : ∃ k2, k1 - p = k2 := ⟨_, rfl⟩
                  have e5 : IntKind.i64.wrap ((k : Int) - 1) = (k1 : Int) := by rw [show (k : Int) - 1 = (k1 : Int) by omega]; exact IntWalk.i64_in _ (by omega)
                  have e6 : IntKind.i64.wrap ((k1 : Int) - (p : Int)) = (k2 : Int) := by rw [show (k1 : Int) - (p : Int) = (k2 : Int) by omega]; exact IntWalk.i64_in _ (by omega)
                  have B1 := hPI.out.step (k := k2) (by simp; omega)
                  have HB1 : Hid (Calls Try.prog 20 #[.pointer (some ⟨W.heap.size, 0, none⟩), .slice a9 k c9, .int .i64 (k2 : Int)] wr fun e w' => e = .returned (.bool true) ∧ BrI W W.heap.size (.slice a9 k c9) k true (p + 1) w') := B1
                  clear B1 hk1 hk2 hPI
                  go_wp2_with fail
                  refine HB1.out.mono ?_
                  rintro e w5 ⟨rfl, h5⟩
                  have H5 : Hid (BrI W W.heap.size (.slice a9 k c9) k true (p + 1) w5) := h5
                  clear h5 HB1
                  go_wp2_with fail
                  exact ⟨⟨p + 1, by omega, by simp, H5.out⟩, by simp [RowKit.intOf]; omega⟩
                | false =>
                  have B1 := hPI.out.step (k := p) (by simp)
                  have HB1 : Hid (Calls Try.prog 20 #[.pointer (some ⟨W.heap.size, 0, none⟩), .slice a9 k c9, .int .i64 (p : Int)] wr fun e w' => e = .returned (.bool true) ∧ BrI W W.heap.size (.slice a9 k c9) k false (p + 1) w') := B1
                  clear B1 hPI
                  go_wp2_with fail
                  refine HB1.out.mono ?_
                  rintro e w5 ⟨rfl, h5⟩
                  have H5 : Hid (BrI W W.heap.size (.slice a9 k c9) k false (p + 1) w5) := h5
                  clear h5 HB1
                  go_wp2_with fail
                  exact ⟨⟨p + 1, by omega, by simp, H5.out⟩, by simp [RowKit.intOf]; omega⟩
              · have j4 : ¬ (p : Int) < (k : Int) := by omega
                obtain rfl : p = k := by omega
                obtain ⟨L', hB', hL', hv'⟩ := hPI.out
                have hz : hereN L' = 0 := here_zero L' (fun j s hs => hv' j s (by
                  have hjl := (List.getElem?_eq_some_iff.1 hs).1
                  cases back with
                  | true => simp
                  | false => simp; omega) hs)
                have L2 : Calls Try.prog 11 #[.pointer (some ⟨W.heap.size, 0, none⟩)] wr fun e w' => e = .returned (.int .i64 0) ∧ w' = wr := by
                  have h1 := hB'.len
                  rw [show (bagS L').fl.length = 0 by rw [← hz]; exact fgs_len L' 0] at h1
                  exact h1
                have N2 : Calls Try.prog 12 #[.pointer (some ⟨W.heap.size, 0, none⟩)] wr fun e w' => e = .returned (.int .i64 (p : Int)) ∧ w' = wr := by
                  have h1 := hB'.next
                  rw [show (bagS L').next = p from hL'] at h1
                  exact h1
                have HE : Hid (Below W.heap.size W wr) := hB'.bel
                clear hB' hL' hv' hz hPI
                go_wp2_with fail
                refine L2.mono ?_
                rintro e w5 ⟨rfl, hw⟩
                obtain rfl := hw.symm
                go_wp2_with fail
                refine N2.mono ?_
                rintro e w5 ⟨rfl, hw⟩
                obtain rfl := hw.symm
                go_wp2_with fail
                go_ret
                exact ⟨rfl, HE.out⟩
      · have j1 : ¬ (i : Int) < (n : Int) := by omega
        obtain ⟨L, hB, hL, hb⟩ := hI.out
        obtain ⟨a9, c9, e9, _, _⟩ := hB.shape
        obtain ⟨m, hm⟩ : ∃ m, L.length = m := ⟨_, rfl⟩
        rw [hm] at e9
        subst e9
        have HB : Hid (Bg W wr W.heap.size (bagS L) (.slice a9 m c9) L ∧ L.length = m ∧ L.length ≤ 2 + 20 * i ∧ ∀ s ∈ L, s.bs.length ≤ 1048576) := ⟨hB, hm, hL, hb⟩
        have hm2 : m ≤ 1602 := by omega
        obtain ⟨wo, hwo⟩ : ∃ wo, wo = wr := ⟨_, rfl⟩
        subst hwo
        clear hB hL hb hm hI
        go_wp2_with fail
        go_loopw [12, 13] (fun v12 v13 w => ∃ k : Nat, k ≤ m ∧ v13 = .int .i64 (k : Int) ∧ v12 = .int .i64 (hereN (L.take k) : Int) ∧ w = wo) (fun _ v13 _ => m - (RowKit.intOf v13).toNat)
        case atStart => exact ⟨0, Nat.zero_le _, rfl, by simp [hereN], rfl⟩
        case round =>
          obtain ⟨k, hk, rfl, rfl, hww⟩ := hrel
          obtain rfl := hww.symm
          clear hww
          obtain ⟨hn0, hhn⟩ : ∃ h0, hereN (L.take k) = h0 := ⟨_, rfl⟩
          have HHN : Hid (hereN (L.take k) = hn0) := hhn
          have hle : hn0 ≤ m := by
            have h1 := hereN_le (L.take k)
            rw [List.length_take] at h1
            omega
          rw [hhn]
          clear hhn
          by_cases hkm : k < m
          · have j3 : (k : Int) < (m : Int) := by omega
            have hsk : ∃ s, L[k]? = some s := ⟨_, List.getElem?_eq_getElem (by rw [HB.out.2.1]; exact hkm)⟩
            obtain ⟨s, hsk⟩ := hsk
            obtain ⟨g, c', ev, _, ⟨_, _, _, _, _, k5⟩, _⟩ := HB.out.1.at hsk
            simp only [Value.slice.injEq] at ev
            obtain ⟨rfl, -, rfl⟩ := ev
            have hst := here_take L k s hsk
            have ek : IntKind.i64.wrap ((k : Int) + 1) = (k : Int) + 1 := IntWalk.i64_in _ (by omega)
            have eh : IntKind.i64.wrap ((hn0 : Int) + 1) = (hn0 : Int) + 1 := IntWalk.i64_in _ (by omega)
            cases hh : s.here with
            | true =>
              rw [hh] at k5 hst
              have HST : Hid (hereN (L.take (k + 1)) = hn0 + 1) := by show _ = _; rw [hst, HHN.out]; rfl
              clear hst hsk hh
              go_wp2_with fail
              exact ⟨⟨k + 1, by omega, by simp, by rw [HST.out]; simp, trivial⟩, by simp [RowKit.intOf]; omega⟩
            | false =>
              rw [hh] at k5 hst
              have HST : Hid (hereN (L.take (k + 1)) = hn0) := by show _ = _; rw [hst, HHN.out]; rfl
              clear hst hsk hh
              go_wp2_with fail
              exact ⟨⟨k + 1, by omega, by simp, by rw [HST.out], trivial⟩, by simp [RowKit.intOf]; omega⟩
          · have j3 : ¬ (k : Int) < (m : Int) := by omega
            obtain rfl : k = m := by omega
            have hhe : hn0 = hereN L := by rw [← HHN.out, List.take_of_length_le (by rw [HB.out.2.1]; exact Nat.le_refl _)]
            have L1 : Calls Try.prog 11 #[.pointer (some ⟨W.heap.size, 0, none⟩)] wo fun e w' => e = .returned (.int .i64 (hn0 : Int)) ∧ w' = wo := by
              have h1 := HB.out.1.len
              rw [show (bagS L).fl.length = hn0 by rw [hhe]; exact fgs_len L 0] at h1
              exact h1
            have N1 : Calls Try.prog 12 #[.pointer (some ⟨W.heap.size, 0, none⟩)] wo fun e w' => e = .returned (.int .i64 (k : Int)) ∧ w' = wo := by
              have h1 := HB.out.1.next
              rw [show (bagS L).next = k from HB.out.2.1] at h1
              exact h1
            have F1 : Hid (Calls Try.prog 19 #[.pointer (some ⟨W.heap.size, 0, none⟩)] wo fun e w' => ∃ go, e = .returned (.slice (some ⟨go, 0, none⟩) hn0 hn0) ∧ BrI W W.heap.size (.slice a9 k c9) k back 0 w') := by
              have h1 := HB.out.1.flights (by have := HB.out; omega) HB.out.2.2.2
              rw [← hhe] at h1
              refine h1.mono ?_
              rintro e w' ⟨go, e1, e2⟩
              refine ⟨go, e1, L, e2, HB.out.2.1, fun j s hj hs => ?_⟩
              have hjl := (List.getElem?_eq_some_iff.1 hs).1
              have hlm := HB.out.2.1
              cases back with
              | true => simp at hj; omega
              | false => simp at hj
            have bh : ((hn0 : Int) != (hn0 : Int)) = false := by simp
            have bk : ((k : Int) != (k : Int)) = false := by simp
            have bk2 : ((k : Int) == (k : Int)) = true := by simp
            clear hhe
            go_wp2_with fail
            refine L1.mono ?_
            rintro e w3 ⟨rfl, hw⟩
            obtain rfl := hw.symm
            go_wp2_with fail
            refine N1.mono ?_
            rintro e w3 ⟨rfl, hw⟩
            obtain rfl := hw.symm
            go_wp2_with fail
            refine F1.out.mono ?_
            rintro e w3 ⟨go, rfl, h3⟩
            have H3 : Hid (BrI W W.heap.size (.slice a9 k c9) k back 0 w3) := h3
            clear h3 F1 L1 N1 HB HHN
            go_wp2_with fail
            go_loopw [14] (fun v14 w => ∃ p : Nat, p ≤ k ∧ v14 = .int .i64 (p : Int) ∧ Hid (BrI W W.heap.size (.slice a9 k c9) k back p w)) (fun v14 _ => k - (RowKit.intOf v14).toNat)
            case atStart => exact ⟨0, Nat.zero_le _, rfl, H3.out⟩
            case round =>
              obtain ⟨p, hp, rfl, hPI⟩ := hrel
              by_cases hpk : p < k
              · have j4 : (p : Int) < (k : Int) := by omega
                have ep : IntKind.i64.wrap ((p : Int) + 1) = (p : Int) + 1 := IntWalk.i64_in _ (by omega)
                cases back with
                | true =>
                  obtain ⟨k1, hk1⟩ : ∃ k1, k - 1 = k1 := ⟨_, rfl⟩
                  obtain ⟨k2, hk2⟩ : ∃ k2, k1 - p = k2 := ⟨_, rfl⟩
                  have e5 : IntKind.i64.wrap ((k : Int) - 1) = (k1 : Int) := by rw [show (k : Int) - 1 = (k1 : Int) by omega]; exact IntWalk.i64_in _ (by omega)
                  have e6 : IntKind.i64.wrap ((k1 : Int) - (p : Int)) = (k2 : Int) := by rw [show (k1 : Int) - (p : Int) = (k2 : Int) by omega]; exact IntWalk.i64_in _ (by omega)
                  have B1 := hPI.out.step (k := k2) (by simp; omega)
                  have HB1 : Hid (Calls Try.prog 20 #[.pointer (some ⟨W.heap.size, 0, none⟩), .slice a9 k c9, .int .i64 (k2 : Int)] wr fun e w' => e = .returned (.bool true) ∧ BrI W W.heap.size (.slice a9 k c9) k true (p + 1) w') := B1
                  clear B1 hk1 hk2 hPI
                  go_wp2_with fail
                  refine HB1.out.mono ?_
                  rintro e w5 ⟨rfl, h5⟩
                  have H5 : Hid (BrI W W.heap.size (.slice a9 k c9) k true (p + 1) w5) := h5
                  clear h5 HB1
                  go_wp2_with fail
                  exact ⟨⟨p + 1, by omega, by simp, H5.out⟩, by simp [RowKit.intOf]; omega⟩
                | false =>
                  have B1 := hPI.out.step (k := p) (by simp)
                  have HB1 : Hid (Calls Try.prog 20 #[.pointer (some ⟨W.heap.size, 0, none⟩), .slice a9 k c9, .int .i64 (p : Int)] wr fun e w' => e = .returned (.bool true) ∧ BrI W W.heap.size (.slice a9 k c9) k false (p + 1) w') := B1
                  clear B1 hPI
                  go_wp2_with fail
                  refine HB1.out.mono ?_
                  rintro e w5 ⟨rfl, h5⟩
                  have H5 : Hid (BrI W W.heap.size (.slice a9 k c9) k false (p + 1) w5) := h5
                  clear h5 HB1
                  go_wp2_with fail
                  exact ⟨⟨p + 1, by omega, by simp, H5.out⟩, by simp [RowKit.intOf]; omega⟩
              · have j4 : ¬ (p : Int) < (k : Int) := by omega
                obtain rfl : p = k := by omega
                obtain ⟨L', hB', hL', hv'⟩ := hPI.out
                have hz : hereN L' = 0 := here_zero L' (fun j s hs => hv' j s (by
                  have hjl := (List.getElem?_eq_some_iff.1 hs).1
                  cases back with
                  | true => simp
                  | false => simp; omega) hs)
                have L2 : Calls Try.prog 11 #[.pointer (some ⟨W.heap.size, 0, none⟩)] wr fun e w' => e = .returned (.int .i64 0) ∧ w' = wr := by
                  have h1 := hB'.len
                  rw [show (bagS L').fl.length = 0 by rw [← hz]; exact fgs_len L' 0] at h1
                  exact h1
                have N2 : Calls Try.prog 12 #[.pointer (some ⟨W.heap.size, 0, none⟩)] wr fun e w' => e = .returned (.int .i64 (p : Int)) ∧ w' = wr := by
                  have h1 := hB'.next
                  rw [show (bagS L').next = p from hL'] at h1
                  exact h1
                have HE : Hid (Below W.heap.size W wr) := hB'.bel
                clear hB' hL' hv' hz hPI
                go_wp2_with fail
                refine L2.mono ?_
                rintro e w5 ⟨rfl, hw⟩
                obtain rfl := hw.symm
                go_wp2_with fail
                refine N2.mono ?_
                rintro e w5 ⟨rfl, hw⟩
                obtain rfl := hw.symm
                go_wp2_with fail
                go_ret
                exact ⟨rfl, HE.out⟩
end Go.Proofs.Ytdmhajlhpieedaa
