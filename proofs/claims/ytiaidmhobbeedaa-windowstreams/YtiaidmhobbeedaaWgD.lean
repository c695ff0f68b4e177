import Derived.Test.YtiaidmhobbeedaaWgC
import Derived.Test.YtiaidmhobbeedaaWgB
import Derived.Test.YtiaidmhobbeedaaWfC
import Derived.Test.YtiaidmhobbeedaaWcI
import Derived.Test.YtiaidmhobbeedaaWhL
import Derived.Sort.QuietTacIn
/-! WindowStreams. -/
namespace Go.Proofs.Ytiaidmhobbeedaa
open Go.RowKit Go.Lib
set_option maxRecDepth 100000
attribute [local go_sem] Oper.semAt_some
theorem arrU (t : Array Value) (h : t.size = 114) : ∃ u : Nat → Value, t = #[u 0, u 1, u 2, u 3, u 4, u 5, u 6, u 7, u 8, u 9, u 10, u 11, u 12, u 13, u 14, u 15, u 16, u 17, u 18, u 19, u 20, u 21, u 22, u 23, u 24, u 25, u 26, u 27, u 28, u 29, u 30, u 31, u 32, u 33, u 34, u 35, u 36, u 37, u 38, u 39, u 40, u 41, u 42, u 43, u 44, u 45, u 46, u 47, u 48, u 49, u 50, u 51, u 52, u 53, u 54, u 55, u 56, u 57, u 58, u 59, u 60, u 61, u 62, u 63, u 64, u 65, u 66, u 67, u 68, u 69, u 70, u 71, u 72, u 73, u 74, u 75, u 76, u 77, u 78, u 79, u 80, u 81, u 82, u 83, u 84, u 85, u 86, u 87, u 88, u 89, u 90, u 91, u 92, u 93, u 94, u 95, u 96, u 97, u 98, u 99, u 100, u 101, u 102, u 103, u 104, u 105, u 106, u 107, u 108, u 109, u 110, u 111, u 112, u 113] := by
  refine ⟨fun n => t.getD n undef, ?_⟩
  have h1 : t = ((List.range 114).map (fun n => t.getD n undef)).toArray := by
    apply Array.ext
    · simp [h]
    · intro i h1 h2
      simp [h1]
  exact h1
/-- Marks of loops over iterators that are shut already. -/
def Mk (w2 : World) (rs : List Nat) (W : World) : Prop := rs.Nodup ∧ ∀ r ∈ rs, w2.heap.size ≤ r ∧ W.heap[r]? = some (.deferred (some []))
theorem Mk.nil (w2 W : World) : Mk w2 [] W := ⟨List.nodup_nil, by simp⟩
theorem Mk.chg {w2 W W' : World} {rs : List Nat} {D : Nat → Prop} (h : Mk w2 rs W) (hC : Chg D W W') (hD : ∀ g, D g → g < w2.heap.size) : Mk w2 rs W' := ⟨h.1, fun r hr => ⟨(h.2 r hr).1, hC.block (h.2 r hr).2 (fun hd => by have := hD r hd; have := (h.2 r hr).1; omega)⟩⟩
theorem Mk.below {w2 W W' : World} {rs : List Nat} (h : Mk w2 rs W) (hb : Below W.heap.size W W') : Mk w2 rs W' := ⟨h.1, fun r hr => ⟨(h.2 r hr).1, (hb.block r (Array.getElem?_eq_some_iff.1 (h.2 r hr).2).1).trans (h.2 r hr).2⟩⟩
theorem Mk.cons {w2 W W0 : World} {rs : List Nat} {r : Nat} (h0 : Mk w2 rs W0) (h : Mk w2 rs W) (h1 : w2.heap.size ≤ r) (h2 : W0.heap.size ≤ r) (h3 : W.heap[r]? = some (.deferred (some []))) : Mk w2 (r :: rs) W := by
  refine ⟨List.nodup_cons.2 ⟨fun hm => ?_, h.1⟩, fun x hx => ?_⟩
  · have := (Array.getElem?_eq_some_iff.1 (h0.2 r hm).2).1
    omega
  · rcases List.mem_cons.1 hx with rfl | hx
    · exact ⟨h1, h3⟩
    · exact h.2 x hx
set_option maxHeartbeats 4000000 in
theorem windowStreams_any {w : World} (nx sz st : Int) {a : Option Addr} {tn cap : Nat} {ts : List Int} (ht : Rw intV 1 w a tn cap ts) :
    Calls Try.prog 6 #[.agg #[.int .i64 nx, .int .i64 sz, .slice a tn cap, .int .i64 st]] w fun e w' => e = .returned (.bool true) ∧ Below w.heap.size w w' := by
  refine (callsIn_wide (n := 6)).1 ?_
  obtain ⟨z, hz, _, HP⟩ := pk_nat sz 20 (by omega) (by omega)
  obtain ⟨m, hm⟩ : ∃ m : Nat, m = 1 + z := ⟨_, rfl⟩
  have e1 : IntKind.i64.wrap (1 + (z : Int)) = (m : Int) := by rw [IntWalk.i64_in _ (by omega)]; omega
  have HM : Hid (1 ≤ m ∧ m ≤ 20) := ⟨by omega, by omega⟩
  have HP2 : Hid (∀ w, Calls Try.prog 10 #[.int .i64 sz, .int .i64 20] w fun e w' => e = .returned (.int .i64 (z : Int)) ∧ w' = w) := HP
  have HNW : Hid (∀ w, Calls Try.prog 11 #[.int .i64 0, .int .i64 (m : Int)] w fun e w' => e = .returned (.tuple #[.pointer (some ⟨w.heap.size + 1, 0, none⟩), .int .i64 0]) ∧ WinI w' (w.heap.size + 1) w.heap.size ⟨0, m, []⟩ ∧ Below w.heap.size w w' ∧ w'.heap.size = w.heap.size + 2) := fun w => newI_ok 0 m (by decide) (by decide) (by omega) (by omega) w
  have HTS : Hid (Rw intV 1 w a tn cap ts) := ht
  clear hm hz HP ht
  refine callsIn_of_wp_marks Try.func6 rfl trivial ?_ rfl
  simp only [Try.ntmps6, List.size_toArray, List.length_cons, List.length_nil, Nat.reduceAdd, Nat.reduceSub, Array.replicate_succ, Array.replicate_zero, List.push_toArray, List.append_toArray, List.nil_append, List.cons_append]
  obtain ⟨W0, hW0⟩ : ∃ W0, (w.alloc (.cells #[.int .i64 nx, .int .i64 sz, .slice a tn cap, .int .i64 st] 31)).alloc (.cells #[.bool false] 4) = W0 := ⟨_, rfl⟩
  have hb0 : Below w.heap.size w W0 := by rw [← hW0]; exact ((Below.refl _ _).alloc (Nat.le_refl _) _).alloc (by simp) _
  have hx0 : W0.heap[w.heap.size]? = some (.cells #[.int .i64 nx, .int .i64 sz, .slice a tn cap, .int .i64 st] 31) := by rw [← hW0]; exact (Below.heap_alloc _ _ _ (by simp)).trans (heap_alloc_new _ _)
  have hr0 : W0.heap[w.heap.size + 1]? = some (.cells #[.bool false] 4) := by
    rw [← hW0]
    have := heap_alloc_new (w.alloc (.cells #[.int .i64 nx, .int .i64 sz, .slice a tn cap, .int .i64 st] 31)) (.cells #[.bool false] 4)
    rwa [World.size_alloc] at this
  have HB0 : Hid (Below w.heap.size w W0 ∧ W0.heap[w.heap.size]? = some (.cells #[.int .i64 nx, .int .i64 sz, .slice a tn cap, .int .i64 st] 31) ∧ W0.heap[w.heap.size + 1]? = some (.cells #[.bool false] 4)) := ⟨hb0, hx0, hr0⟩
  obtain ⟨c0, c1, c2, c3⟩ := box4 hx0
  have hs0 : W0.heap.size = w.heap.size + 2 := by rw [← hW0]; simp
  have HS0 : Hid (W0.heap.size = w.heap.size + 2) := hs0
  clear hb0 hx0 hr0 hs0
  gi_wp2
  refine ⟨trivial, (callsIn_wide.2 (HP2.out _)).mono ?_⟩
  rintro e w1 ⟨rfl, hw1⟩
  obtain rfl := hw1.symm
  clear hw1
  gi_wp2
  refine ⟨trivial, (callsIn_wide.2 (HNW.out _)).mono ?_⟩
  rintro e w1 ⟨rfl, k1, k2, k3⟩
  obtain ⟨q, hq⟩ : ∃ q, q = W0.heap.size + 1 := ⟨_, rfl⟩
  obtain ⟨b, hb⟩ : ∃ b, b = W0.heap.size := ⟨_, rfl⟩
  rw [← hq, ← hb] at k1
  rw [← hq]
  have H1 : Hid (WinI w1 q b ⟨0, m, []⟩ ∧ Below W0.heap.size W0 w1 ∧ w1.heap.size = W0.heap.size + 2 ∧ q = W0.heap.size + 1 ∧ b = W0.heap.size) := ⟨k1, k2, k3, hq, hb⟩
  clear k1 k2 k3 c0 c1 c2 c3 hq hb
  gi_wp2
  obtain ⟨k1, k2, k3, hq, hb⟩ := H1.out
  obtain ⟨bo, hbo⟩ : ∃ bo, w1.heap.size = bo := ⟨_, rfl⟩
  obtain ⟨w2, hw2⟩ : ∃ w2, w1.alloc (.cells #[.int .i64 0] 3) = w2 := ⟨_, rfl⟩
  have hb12 : Below w1.heap.size w1 w2 := by rw [← hw2]; exact (Below.refl _ _).alloc (Nat.le_refl _) _
  have HT0 : Hid (SI (Value.int .i64) 63 q b bo 3 w2 w2 ⟨0, m, []⟩ (.int .i64 0) ∧ w2.heap[w.heap.size]? = some (.cells #[.int .i64 nx, .int .i64 sz, .slice a tn cap, .int .i64 st] 31) ∧ w2.heap[w.heap.size + 1]? = some (.cells #[.bool false] 4) ∧ Below w.heap.size w w2 ∧ w2.heap.size = w.heap.size + 5 ∧ q = w.heap.size + 3 ∧ b = w.heap.size + 2 ∧ bo = w.heap.size + 4) := by
    have h0 := HB0.out
    have hs := HS0.out
    refine ⟨⟨k1.below hb12, by rw [← hw2, ← hbo]; exact heap_alloc_new _ _, Chg.refl _ _⟩, (hb12.block _ (by omega)).trans ((k2.block _ (by omega)).trans h0.2.1), (hb12.block _ (by omega)).trans ((k2.block _ (by omega)).trans h0.2.2), (h0.1.trans (k2.mono (by omega))).trans (hb12.mono (by omega)), by rw [← hw2]; simp; omega, by omega, by omega, by omega⟩
  clear k1 k2 k3 hb12 hq hb HP2 HNW HB0 HS0 H1
  rw [hbo, hw2]
  clear hbo hw2 hW0
  obtain ⟨B, hBw⟩ : ∃ B, w.heap.size = B := ⟨_, rfl⟩
  have HT0' := HT0
  rw [hBw] at HT0' ⊢
  have HB : Hid (w.heap.size = B) := hBw
  clear HT0 hBw
  refine wpIn_loop (fun a' W => Hid (∃ (lap bs : Nat) (rs : List Nat), a'.tmps.size = 114 ∧ a'.tmps[1]? = some (.pointer (some ⟨B, 0, none⟩)) ∧ a'.tmps[2]? = some (.pointer (some ⟨B + 1, 0, none⟩)) ∧ a'.tmps[3]? = some (.int .i64 (m : Int)) ∧ a'.tmps[4]? = some (.pointer (some ⟨q, 0, none⟩)) ∧ a'.tmps[6]? = some (.pointer (some ⟨bo, 0, none⟩)) ∧ a'.tmps[7]? = some (.int .i64 (lap : Int)) ∧ a'.defers = rs.map mark ∧ lap ≤ 4 ∧ Hid (SI (Value.int .i64) 63 q b bo 3 w2 W ⟨(bs : Int), m, []⟩ (.int .i64 (bs : Int)) ∧ Mk w2 rs W ∧ bs = lap * m))) (fun a' _ => 4 - (RowKit.intOf (a'.tmps.getD 7 undef)).toNat) ?startA ?roundA
  case startA =>
    have hst : Hid (SI (Value.int .i64) 63 q b bo 3 w2 w2 ⟨((0 : Nat) : Int), m, []⟩ (.int .i64 ((0 : Nat) : Int)) ∧ Mk w2 [] w2 ∧ 0 = 0 * m) := ⟨HT0'.out.1, Mk.nil _ _, by simp⟩
    exact ⟨0, 0, [], rfl, rfl, rfl, rfl, rfl, rfl, rfl, rfl, by omega, hst⟩
  case roundA =>
    rintro ⟨tm, df⟩ wr hinv
    obtain ⟨lap, bs, rs, hsz, s1, s2, s3, s4, s6, s7, hdf, hlap, HT⟩ := hinv.out
    clear hinv
    simp only at hsz s1 s2 s3 s4 s6 s7 hdf
    subst hdf
    obtain ⟨u, rfl⟩ := arrU tm hsz
    simp only [List.getElem?_toArray, List.getElem?_cons_succ, List.getElem?_cons_zero, Option.some.injEq] at s1 s2 s3 s4 s6 s7
    rw [s1, s2, s3, s4, s6, s7]
    clear hsz s1 s2 s3 s4 s6 s7
    by_cases hl4 : lap < 4
    · have g1 : (lap : Int) < 4 := by omega
      obtain ⟨h1, h2, h3, h4, h5, h6, h7, h8⟩ := HT0'.out
      have hchg := HT.out.1.chg
      have hwB := HB.out
      have hxo := hchg.block h2 (by simp only [Wb]; omega)
      obtain ⟨c0, c1, c2, c3⟩ := box4 hxo
      have hbw : Below B w wr := h4.trans (hchg.below (fun g hg => by simp only [Wb] at hg; omega) (by omega))
      have HBW : Hid (Below B w wr) := hbw
      clear h1 h2 h3 h4 h5 h6 h7 h8 hchg hwB hxo hbw
      gi_wp2
      refine ⟨trivial, (callsIn_wide.2 (come_any HM.out.1 (by have := HM.out.2; omega) (HTS.out.below (by rw [HB.out]; exact HBW.out)))).mono ?_⟩
      rintro e wl hcm
      obtain ⟨v, l, rfl, hl1, hl2, hl3, hl5, hl6⟩ := hcm
      obtain ⟨va, vc, rfl⟩ := hl1.shape
      have HL : Hid (OwnF intV 1 3 wl wr.heap.size (.slice va l.length vc) l ∧ l.length = m ∧ l.Nodup ∧ (∀ x ∈ l, 0 ≤ x ∧ x < (m : Int)) ∧ w2.heap.size ≤ wr.heap.size) := ⟨hl1, hl2, hl3, hl5, HT.out.1.chg.size⟩
      have HTL : Hid (SI (Value.int .i64) 63 q b bo 3 w2 wl ⟨(bs : Int), m, []⟩ (.int .i64 (bs : Int)) ∧ Mk w2 rs wl ∧ bs = lap * m) := by
        obtain ⟨h1, h2, h3⟩ := HT.out
        exact ⟨h1.below hl6, h2.below hl6, h3⟩
      have HLM : Hid (l.length = m) := hl2
      rw [hl2] at HL ⊢
      clear hl1 hl2 hl3 hl5 hl6 HBW c0 c1 c2 c3 HT
      gi_wp2
      refine wpIn_loop (fun a' W => Hid (∃ (j : Nat) (rs : List Nat) (S : Wn Int), a'.tmps.size = 114 ∧ a'.tmps[1]? = some (.pointer (some ⟨B, 0, none⟩)) ∧ a'.tmps[2]? = some (.pointer (some ⟨B + 1, 0, none⟩)) ∧ a'.tmps[3]? = some (.int .i64 (m : Int)) ∧ a'.tmps[4]? = some (.pointer (some ⟨q, 0, none⟩)) ∧ a'.tmps[6]? = some (.pointer (some ⟨bo, 0, none⟩)) ∧ a'.tmps[7]? = some (.int .i64 (lap : Int)) ∧ a'.tmps[8]? = some (.slice va m vc) ∧ a'.tmps[9]? = some (.int .i64 (j : Int)) ∧ a'.defers = rs.map mark ∧ j ≤ m ∧ Hid (SI (Value.int .i64) 63 q b bo 3 wl W S (.int .i64 S.nx) ∧ Mk w2 rs W ∧ Str m bs (l.take j) S ∧ hasN S.L S.nx = false))) (fun a' _ => m - (RowKit.intOf (a'.tmps.getD 9 undef)).toNat) ?startB ?roundB
      case startB =>
        have hst : Hid (SI (Value.int .i64) 63 q b bo 3 wl wl ⟨(bs : Int), m, []⟩ (.int .i64 (bs : Int)) ∧ Mk w2 rs wl ∧ Str m bs (l.take 0) ⟨(bs : Int), m, []⟩ ∧ hasN ([] : List (Int × Int)) (bs : Int) = false) := ⟨HTL.out.1.base, HTL.out.2.1, Str.start m bs, rfl⟩
        exact ⟨0, rs, ⟨(bs : Int), m, []⟩, rfl, rfl, rfl, rfl, rfl, rfl, rfl, rfl, rfl, rfl, by omega, hst⟩
      case roundB =>
        rintro ⟨tm, df⟩ wo hinv
        obtain ⟨j, rs2, S, hsz, s1, s2, s3, s4, s6, s7, s8, s9, hdf, hjm, HT⟩ := hinv.out
        clear hinv
        simp only at hsz s1 s2 s3 s4 s6 s7 s8 s9 hdf
        subst hdf
        obtain ⟨u, rfl⟩ := arrU tm hsz
        simp only [List.getElem?_toArray, List.getElem?_cons_succ, List.getElem?_cons_zero, Option.some.injEq] at s1 s2 s3 s4 s6 s7 s8 s9
        rw [s1, s2, s3, s4, s6, s7, s8, s9]
        clear hsz s1 s2 s3 s4 s6 s7 s8 s9
        by_cases hj : j < m
        · have g2 : (j : Int) < (m : Int) := by omega
          obtain ⟨ga, off, x, hva, hgl, hx, hcx⟩ := (HL.out.1.rw_ layI).at j hj
          subst hva
          have hx0 := HL.out.2.2.2.1 x (List.mem_of_getElem? hx)
          obtain ⟨X, rfl⟩ : ∃ X : Nat, x = (X : Int) := ⟨x.toNat, by omega⟩
          have cX := hcx 0 _ rfl
          simp only [Nat.add_zero, Nat.mul_one] at cX
          have hga : wr.heap.size ≤ ga := HL.out.1.ge rfl
          have hbs := HTL.out.2.2
          have hqs := HT0'.out.2.2.2.2
          have hw2 := HL.out.2.2.2.2
          have cx : wo.cell? ⟨ga, off + j, none⟩ = some (.int .i64 (X : Int)) := (HT.out.1.chg.cell (p := ⟨ga, off + j, none⟩) hgl (by simp only [Wb]; omega)).trans cX
          have hb80 : bs ≤ 80 := by rw [hbs]; exact Nat.mul_le_mul (by omega : lap ≤ 4) HM.out.2
          have hbi : (lap : Int) * (m : Int) = (bs : Int) := by rw [hbs]; exact (Int.natCast_mul _ _).symm
          have w0' : IntKind.i64.wrap ((lap : Int) * (m : Int)) = (bs : Int) := by rw [hbi]; exact IntWalk.i64_in _ (by omega)
          obtain ⟨nA, hnA⟩ : ∃ nA : Nat, nA = bs + X := ⟨_, rfl⟩
          have w1' : IntKind.i64.wrap ((bs : Int) + (X : Int)) = (nA : Int) := by rw [IntWalk.i64_in _ (by have := HM.out; omega)]; omega
          obtain ⟨n7, hn7⟩ : ∃ n7 : Nat, n7 = 7 * nA := ⟨_, rfl⟩
          have w2' : IntKind.i64.wrap (7 * (nA : Int)) = (n7 : Int) := by rw [IntWalk.i64_in _ (by have := HM.out; omega)]; omega
          have hnm := not_mem_take HL.out.2.2.1 hx
          have hstr := HT.out.2.2.1
          obtain ⟨hc1, hc2⟩ := hstr.can hnm hx0.1 hx0.2
          rw [show (bs : Int) + (X : Int) = (nA : Int) by omega] at hc1 hc2
          have hp2 := hstr.put hnm hx0.1 hx0.2
          have htk : l.take (j + 1) = l.take j ++ [(X : Int)] := by rw [List.take_add_one, hx]; rfl
          rw [← htk, show (bs : Int) + (X : Int) = (nA : Int) by omega, show 7 * (nA : Int) = (n7 : Int) by omega] at hp2
          have HS : Hid (putE S (nA : Int) = 0 ∧ putS S (nA : Int) (-1) = ⟨S.nx, S.sz, S.L ++ [((nA : Int), -1)]⟩ ∧ dropE (⟨S.nx, S.sz, S.L ++ [((nA : Int), -1)]⟩ : Wn Int) (nA : Int) = 0 ∧ dropS (⟨S.nx, S.sz, S.L ++ [((nA : Int), -1)]⟩ : Wn Int) (nA : Int) = S ∧ dropE S (nA : Int) = 15 ∧ dropS S (nA : Int) = S ∧ putS S (nA : Int) (n7 : Int) = ⟨S.nx, S.sz, S.L ++ [((nA : Int), (n7 : Int))]⟩ ∧ Str m bs (l.take (j + 1)) ⟨S.nx, S.sz, S.L ++ [((nA : Int), (n7 : Int))]⟩ ∧ nA ≤ 100 ∧ bs ≤ 80) := by
            refine ⟨hc1, by simp [putS, hc1], by simp [dropE, hasN_app], by simp only [dropS, delN_app_new _ hc2], by simp [dropE, hc2], by simp only [dropS, delN_none hc2], by simp [putS, hc1], hp2, by have := HM.out; omega, hb80⟩
          have hj20 : j < 20 := by have := HM.out; omega
          have hgaB : Hid (w2.heap.size ≤ wl.heap.size ∧ w2.heap.size ≤ wo.heap.size) := by
            have h1 := HT.out.1.chg.size
            exact ⟨by omega, by omega⟩
          clear hx hcx cX hga hbs hqs hw2 hgl hx0 hnA hn7 hnm hstr hc1 hc2 hp2 htk hbi hb80
          gi_wp2
          refine ⟨trivial, (callsIn_wide.2 (putI HT.out.1.win (nA : Int) (-1) (by have := HS.out.2.2.2.2.2.2.2.2; omega))).mono ?_⟩
          rintro e w3 ⟨rfl, k1, k2, k3⟩
          rw [HS.out.2.1] at k1
          rw [HS.out.1]
          have H3 : Hid (SI (Value.int .i64) 63 q b bo 3 wl w3 ⟨S.nx, S.sz, S.L ++ [((nA : Int), -1)]⟩ (.int .i64 S.nx) ∧ Chg (Wb q b) wo w3) := ⟨HT.out.1.put k1 k2, k2⟩
          clear k1 k2 k3
          gi_wp2
          refine ⟨trivial, (callsIn_wide.2 (dropI H3.out.1.win (nA : Int))).mono ?_⟩
          rintro e w4 ⟨rfl, k1, k2, k3⟩
          rw [HS.out.2.2.2.1] at k1
          rw [HS.out.2.2.1]
          have H4 : Hid (SI (Value.int .i64) 63 q b bo 3 wl w4 S (.int .i64 S.nx) ∧ Chg (Wb q b) wo w4) := ⟨H3.out.1.put k1 (k2.mono fun _ _ hg => .inr hg), H3.out.2.trans (k2.mono fun _ _ hg => .inr hg)⟩
          clear k1 k2 k3 H3
          gi_wp2
          refine ⟨trivial, (callsIn_wide.2 (dropI H4.out.1.win (nA : Int))).mono ?_⟩
          rintro e w5 ⟨rfl, k1, k2, k3⟩
          rw [HS.out.2.2.2.2.2.1] at k1
          rw [HS.out.2.2.2.2.1]
          have H5 : Hid (SI (Value.int .i64) 63 q b bo 3 wl w5 S (.int .i64 S.nx) ∧ Chg (Wb q b) wo w5) := ⟨H4.out.1.put k1 (k2.mono fun _ _ hg => .inr hg), H4.out.2.trans (k2.mono fun _ _ hg => .inr hg)⟩
          clear k1 k2 k3 H4
          gi_wp2
          refine ⟨trivial, (callsIn_wide.2 (putI H5.out.1.win (nA : Int) (n7 : Int) (by have := HS.out.2.2.2.2.2.2.2.2; omega))).mono ?_⟩
          rintro e w6 ⟨rfl, k1, k2, k3⟩
          rw [HS.out.2.2.2.2.2.2.1] at k1
          rw [HS.out.1]
          obtain ⟨S2, hS2⟩ : ∃ S2 : Wn Int, S2 = ⟨S.nx, S.sz, S.L ++ [((nA : Int), (n7 : Int))]⟩ := ⟨_, rfl⟩
          have H6 : Hid (SI (Value.int .i64) 63 q b bo 3 wl w6 S2 (.int .i64 S2.nx) ∧ Chg (Wb q b) wo w6 ∧ Str m bs (l.take (j + 1)) S2 ∧ bs ≤ 80) := by
            rw [hS2]
            exact ⟨H5.out.1.put k1 k2, H5.out.2.trans k2, HS.out.2.2.2.2.2.2.2.1, HS.out.2.2.2.2.2.2.2.2.2⟩
          clear k1 k2 k3 H5 hS2
          gi_wp2
          refine ⟨trivial, (callsIn_wide.2 (readyI q _)).mono ?_⟩
          rintro e w7 ⟨rfl, hw7⟩
          obtain ⟨bx, hbx⟩ : ∃ bx, w6.heap.size = bx := ⟨_, rfl⟩
          have H7 : Hid (SI (Value.int .i64) 63 q b bo 3 w7 w7 S2 (.int .i64 S2.nx) ∧ Chg (fun g => Wb q b g ∨ g = bo) wl w7 ∧ Mk w2 rs2 w7 ∧ Str m bs (l.take (j + 1)) S2 ∧ bs ≤ 80 ∧ w7.heap[bx]? = some (.cells #[.pointer (some ⟨q, 0, none⟩)] 22) ∧ w2.heap.size ≤ bx ∧ bx < w7.heap.size) := by
            have hb7 : Below w6.heap.size w6 w7 := by rw [hw7]; exact (Below.refl _ _).alloc (Nat.le_refl _) _
            obtain ⟨h1, h2, h3, h4⟩ := H6.out
            have h5 := h1.below hb7
            have h6 := HT0'.out.2.2.2.2
            have h8 := h1.chg.size
            have h9 := hgaB.out.1
            exact ⟨h5.base, h5.chg, (HT.out.2.1.chg h2 (fun g hg => by simp only [Wb] at hg; omega)).below hb7, h3, h4, by rw [hw7, ← hbx]; exact heap_alloc_new _ _, by omega, by rw [hw7]; simp; omega⟩
          rw [hbx]
          clear hbx hw7 H6 cx
          have HEQ := fun W => run_eql_func_nil (P := Try.prog) W 38 _ _ _ (.func 28) #[] #[.pointer (some ⟨bx, 0, none⟩)] Try.underlying38
          gi_wp2
          have HQ : Hid (w2.heap.size = B + 5 ∧ q = B + 3 ∧ b = B + 2 ∧ bo = B + 4) := HT0'.out.2.2.2.2
          refine rangeM (α := Int × Int) (σ := Wn Int) rfl rfl (by decide) (gf := 28) (lb := #[.pointer (some ⟨bx, 0, none⟩)]) rfl trivial (enters_of Try.func28 (by kernel_rfl) rfl) (seqI bx q b 5)
            (fun g hg => by have h := HQ.out; have h2 := H7.out.2.2.2.2.2.2; simp only [Wb] at hg; omega) (fun _ => rfl)
            (fun k s W => k = ((bs : Int) + m - s.nx).toNat ∧ SI (Value.int .i64) 63 q b bo 3 w7 W s (.int .i64 s.nx) ∧ Str m bs (l.take (j + 1)) s)
            (fun k s x s' W => k = ((bs : Int) + m - s.nx).toNat ∧ x = (s.nx, 7 * s.nx) ∧ SI (Value.int .i64) 63 q b bo 3 w7 W s' (.int .i64 s.nx) ∧ Str m bs (l.take (j + 1)) s' ∧ s'.nx = s.nx + 1 ∧ s.nx < (bs : Int) + m ∧ (bs : Int) ≤ s.nx)
            (fun _ _ => False)
            ?hI ?hIx ?hPre ?hAt ?hStep _ S2 ⟨rfl, H7.out.1, H7.out.2.2.2.1⟩
            (fun x => { tmps := #[u 0, .pointer (some ⟨B, 0, none⟩), .pointer (some ⟨B + 1, 0, none⟩), .int .i64 (m : Int), .pointer (some ⟨q, 0, none⟩), u 5, .pointer (some ⟨bo, 0, none⟩), .int .i64 (lap : Int), .slice (some ⟨ga, off, none⟩) m vc, .int .i64 (j : Int), .int .i64 (nA : Int), .int .i64 0, .int .i64 0, .int .i64 15, .int .i64 0, .func (.func 28) #[] #[.pointer (some ⟨bx, 0, none⟩)], .int .i64 x.1, .int .i64 x.2, u 18, u 19, u 20, u 21, u 22, u 23, u 24, u 25, u 26, u 27, u 28, u 29, u 30, u 31, u 32, u 33, u 34, u 35, u 36, u 37, u 38, u 39, u 40, .int .i64 (j : Int), .int .i64 (m : Int), .bool true, u 44, u 45, .int .i64 (lap : Int), .int .i64 (m : Int), .int .i64 (bs : Int), .slice (some ⟨ga, off, none⟩) m vc, .int .i64 (j : Int), .pointer (some ⟨ga, off + j, none⟩), .int .i64 (X : Int), .int .i64 (nA : Int), .pointer (some ⟨q, 0, none⟩), .int .i64 (nA : Int), .int .i64 0, .pointer (some ⟨q, 0, none⟩), .int .i64 (nA : Int), .int .i64 0, .pointer (some ⟨q, 0, none⟩), .int .i64 (nA : Int), .int .i64 15, .pointer (some ⟨q, 0, none⟩), .int .i64 (nA : Int), .int .i64 (nA : Int), .int .i64 (n7 : Int), .int .i64 0, .int .i64 0, .bool false, .bool false, .int .i64 0, .bool false, .bool false, .bool false, .int .i64 15, .bool false, .bool false, .bool false, .int .i64 0, .bool false, .bool false, .pointer (some ⟨q, 0, none⟩), .func (.func 28) #[] #[.pointer (some ⟨bx, 0, none⟩)], .func (.func 28) #[] #[.pointer (some ⟨bx, 0, none⟩)], .bool false, .func (.func 28) #[] #[.pointer (some ⟨bx, 0, none⟩)], .int .i64 x.1, .int .i64 x.2, u 89, u 90, u 91, u 92, u 93, u 94, u 95, u 96, u 97, u 98, u 99, u 100, u 101, u 102, u 103, u 104, u 105, u 106, u 107, u 108, u 109, u 110, u 111, u 112, u 113], defers := [] }) ?assign ?body ?done ?stop
          case hI =>
            intro k s
            refine ownW_of fun W W' ⟨h1, h3, h4⟩ hC => ⟨h1, ?_, h4⟩
            have h := HQ.out
            have h2 := H7.out.2.2.2.2.2.2
            exact h3.chgD hC (by omega) (by omega) (by omega) (fun g hg => hg)
          case hIx =>
            intro c
            exact ownW_of fun W W' h hC => h
          case hPre =>
            intro k s x s'
            refine ownW_of fun W W' ⟨h1, h5, h3, h4⟩ hC => ⟨h1, h5, ?_, h4⟩
            have h := HQ.out
            have h2 := H7.out.2.2.2.2.2.2
            exact h3.chgD hC (by omega) (by omega) (by omega) (fun g hg => hg)
          case hAt =>
            rintro k s W ⟨h1, h3, h4⟩
            have h := HQ.out
            have h2 := H7.out.2.2.2.2.2.2
            have h5 := win_few h3.win
            have h6 := h4.hi
            have h7 := HM.out
            have h8 := H7.out.2.2.2.2.1
            exact AtI.of h3 H7.out.2.2.2.2.2.1 (by simp only [Wb]; omega) (by omega)
          case hStep =>
            rintro k s x s' W1 W2 ⟨h1, h3, h4⟩ hn hA hC
            obtain ⟨n1, n2, n3, n4⟩ := nxtW_inv hn
            have h5 := h4.get _ _ n2
            refine ⟨h1, ?_, h3.put hA.1 hC, by rw [n3]; exact h4.pass n4, by rw [n3]; simp [passS, n4], h4.lt n4, h4.lo⟩
            obtain ⟨x1, x2⟩ := x
            simp only at n1 h5
            rw [n1, h5]
          case assign =>
            intro lp x W K hK
            simp only [encI]
            gi_wp2
            exact hK
          case body =>
            rintro lp k s x s' W hlp _ ⟨hk, rfl, hSI, hStr, hnx, hlt, hge⟩
            obtain ⟨e, he⟩ : ∃ e : Int, s.nx = e := ⟨_, rfl⟩
            obtain ⟨e7, he7⟩ : ∃ e7 : Int, 7 * e = e7 := ⟨_, rfl⟩
            obtain ⟨e1', he1⟩ : ∃ e1 : Int, e + 1 = e1 := ⟨_, rfl⟩
            rw [he] at hk hSI hnx hlt hge ⊢
            have hbb := H7.out.2.2.2.2.1
            have hmm := HM.out.2
            have v7 : IntKind.i64.wrap (7 * e) = e7 := by rw [IntWalk.i64_in _ (by omega)]; exact he7
            have v1 : IntKind.i64.wrap (e + 1) = e1' := by rw [IntWalk.i64_in _ (by omega)]; exact he1
            rw [he7]
            dsimp only
            have co : W.cell? ⟨bo, 0, none⟩ = some (.int .i64 e) := box1 hSI.out
            have fo := Lib.frozen_of_heap hSI.out 0
            have HW3 : Hid (SI (Value.int .i64) 63 q b bo 3 w7 (W.setCell ⟨bo, 0, none⟩ (.int .i64 e1')) s' (.int .i64 e1') ∧ KeepsFrom w7.heap.size W (W.setCell ⟨bo, 0, none⟩ (.int .i64 e1')) ∧ Str m bs (l.take (j + 1)) s' ∧ s'.nx = e1' ∧ ((bs : Int) + m - e1').toNat < k) := by
              refine ⟨hSI.set _, ?_, hStr, by omega, by omega⟩
              have hC : Chg (fun g => g = bo) W (W.setCell ⟨bo, 0, none⟩ (.int .i64 e1')) := Chg.set (D := fun g => g = bo) (q := bo) 0 _ _ rfl
              have h := HQ.out
              have h2 := H7.out.2.2.2.2.2.2
              exact keepsFrom_chg hC (fun g hg => by omega)
            clear hSI hStr hnx hlt hge hk hbb hmm he7 he1 he
            gi_wp2
            obtain ⟨h1, h2, h3, h4, h5⟩ := HW3.out
            exact ⟨h2, _, s', by rw [h4]; exact h5, rfl, by rw [h4]; exact h1, h3⟩
          case stop =>
            rintro _ _ _ _ hf _
            exact hf.elim
          case done =>
            rintro De k s Z hDe ⟨hk, hSI, hStr⟩ hnn hKd
            have hnh := nxtW_none hnn
            have HNX : Hid (∀ k, Calls Try.prog 14 #[.pointer (some ⟨q, 0, none⟩)] (Z.drewN k) fun e w' => e = .returned (.int .i64 s.nx) ∧ w' = Z.drewN k) := fun k => nextI (hSI.win.drewN k)
            have co : Z.cell? ⟨bo, 0, none⟩ = some (.int .i64 s.nx) := box1 hSI.out
            have HZ : Hid (SI (Value.int .i64) 63 q b bo 3 w7 Z s (.int .i64 s.nx) ∧ Str m bs (l.take (j + 1)) s ∧ hasN s.L s.nx = false ∧ Z.heap[De]? = some (.deferred (some [])) ∧ w7.heap.size ≤ De) := ⟨hSI, hStr, hnh, hKd, hDe⟩
            clear hSI hStr hnh hKd hDe hk hnn
            gi_wp2
            refine wpIn_region_quiet_lit rfl (by kernel_rfl) (by kernel_rfl) ?_
            refine wpQuietIn_step (by go_simp; done) (fun K hK => ?_)
            go_simp
            refine hK _ ?_
            clear hK K
            refine wpQuietIn_step (by intro _ _ _ _; exact trivial) (fun K hK => ?_)
            go_simp
            apply Exists.intro
            refine ⟨fun _ => ?_, hK _ ?_⟩
            exact CallsIn.quiet_of_same (callsIn_wide.2 (HNX.out _))
            clear hK K
            refine wpQuietIn_step (by go_simp; done) (fun K hK => ?_)
            go_simp
            refine hK _ ?_
            clear hK K
            refine wpQuietIn_step (by go_simp; done) (fun K hK => ?_)
            go_simp
            refine hK _ ?_
            clear hK K
            refine wpQuietIn_nil ?_
            intro _ hw'
            obtain ⟨nq, hw''⟩ := hw'
            subst hw''
            have H8 : Hid (SI (Value.int .i64) 63 q b bo 3 wl (Z.drewN nq) s (.int .i64 s.nx) ∧ Mk w2 (De :: rs2) (Z.drewN nq) ∧ Str m bs (l.take (j + 1)) s ∧ hasN s.L s.nx = false) := by
              obtain ⟨h1, h2, h3, h4, h5⟩ := HZ.out
              obtain ⟨k1, k2, k3, k4, k5, k6, k7, k8⟩ := H7.out
              have hq := HQ.out
              have hC : Chg (fun g => Wb q b g ∨ g = bo) w7 (Z.drewN nq) := h1.chg.drewN
              exact ⟨⟨h1.win.drewN _, h1.out, k2.trans hC⟩, Mk.cons k3 (k3.chg hC (fun g hg => by simp only [Wb] at hg; omega)) (by omega) h5 h4, h2, h3⟩
            generalize Z.drewN nq = w9 at *
            clear HZ HNX co
            gi_wp2
            exact ⟨⟨j + 1, De :: rs2, s, rfl, rfl, rfl, rfl, rfl, rfl, rfl, rfl, by simp, rfl, by omega, H8.out⟩, by simp [RowKit.intOf]; omega⟩
        · have g2 : ¬ (j : Int) < (m : Int) := by omega
          obtain rfl : j = m := by omega
          have hf : S = ⟨(bs : Int) + j, j, []⟩ := HT.out.2.2.1.full HT.out.2.2.2 (fun x h0 h1 => by rw [List.take_of_length_le (by rw [HLM.out]; exact Nat.le_refl _)]; exact full_mem HL.out.2.2.1 HL.out.2.2.2.1 HLM.out x h0 h1)
          obtain ⟨b2, hb2⟩ : ∃ b2 : Nat, b2 = bs + j := ⟨_, rfl⟩
          have H8 : Hid (SI (Value.int .i64) 63 q b bo 3 w2 wo ⟨(b2 : Int), j, []⟩ (.int .i64 (b2 : Int)) ∧ Mk w2 rs2 wo ∧ b2 = (lap + 1) * j) := by
            have h1 := HTL.out.1.of HT.out.1
            rw [hf] at h1
            have e : (b2 : Int) = (bs : Int) + (j : Int) := by omega
            refine ⟨by rw [e]; exact h1, HT.out.2.1, ?_⟩
            rw [hb2, HTL.out.2.2, Nat.add_mul, Nat.one_mul]
          clear hf hb2 HT
          gi_wp2
          exact ⟨⟨lap + 1, by simp, b2, rs2, rfl, by omega, H8.out⟩, by simp [RowKit.intOf]; omega⟩
    · have g1 : ¬ (lap : Int) < 4 := by omega
      obtain rfl : lap = 4 := by omega
      have hm4 : IntKind.i64.wrap (4 * (m : Int)) = (bs : Int) := by
        have h1 := HT.out.2.2
        have h2 := HM.out.2
        rw [IntWalk.i64_in _ (by omega)]; omega
      have co : wr.cell? ⟨bo, 0, none⟩ = some (.int .i64 (bs : Int)) := box1 HT.out.1.out
      gi_wp2
      refine ⟨trivial, (callsIn_wide.2 (heldI HT.out.1.win (by show (bs : Int) ≤ _; have h1 := HT.out.2.2; have h2 := HM.out.2; omega))).mono ?_⟩
      rintro e w13 ⟨v, rfl, hv, hb⟩
      obtain ⟨vb, vd, rfl⟩ := hv.shape
      simp only [srt_length, List.length_nil]
      have H13 : Hid (SI (Value.int .i64) 63 q b bo 3 w2 w13 ⟨(bs : Int), m, []⟩ (.int .i64 (bs : Int)) ∧ Mk w2 rs w13 ∧ w13.heap[B + 1]? = some (.cells #[.bool false] 4) ∧ Below B w w13) := by
        have h1 := HT.out.1.below hb
        obtain ⟨_, k2, k3, k4, k5⟩ := HT0'.out
        exact ⟨h1, HT.out.2.1.below hb, h1.chg.block k3 (by simp only [Wb]; omega), k4.trans (h1.chg.below (fun g hg => by simp only [Wb] at hg; omega) (by omega))⟩
      have cr := box1 H13.out.2.2.1
      have fr := Lib.frozen_of_heap H13.out.2.2.1 0
      clear hv hb co
      gi_wp2
      obtain ⟨h1, h2, h3, h4⟩ := H13.out
      have hq := HT0'.out.2.2.2.2
      have hwB := HB.out
      have hC : Chg (fun g => g = B + 1) w13 (w13.setCell ⟨B + 1, 0, none⟩ (.bool true)) := Chg.set (D := fun g => g = B + 1) (q := B + 1) 0 _ _ rfl
      have hbx := heap_setCell_cells h3 0 (.bool true)
      generalize w13.setCell ⟨B + 1, 0, none⟩ (.bool true) = w14 at *
      have h5 := h2.chg hC (fun g hg => by omega)
      refine leave_marks rs w14 h5.1 (fun r hr => (h5.2 r hr).2) (fun W' hC' => ?_)
      have hr2 := box1 (hC'.block hbx (fun hr => by have := (h5.2 _ hr).1; omega))
      refine ⟨.bool true, ?_, rfl, ?_⟩
      · rw [results_cells1 rfl]
        go_simp
      · have hs1 := h4.size
        have hs2 := hC.size
        have := (h4.trans (hC.below (fun g hg => by omega) (by omega))).trans (hC'.below (B := B) (fun g hg => by have := (h5.2 g hg).1; omega) (by omega))
        rw [hwB]
        exact this
end Go.Proofs.Ytiaidmhobbeedaa
