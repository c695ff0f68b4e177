import Derived.Test.YtdmhajlhpieedaaLaK
/-! Send. -/
namespace Go.Proofs.Ytdmhajlhpieedaa
open Go.RowKit Go.Lib Go.Shelf
set_option maxRecDepth 100000

/-- A packet in memory. -/
structure Pk where
  fr : Int
  tt : Int
  a : Option Addr
  cap : Nat
  bs : List UInt8
def pkv (p : Pk) : List Value := [.int .i64 p.fr, .int .i64 p.tt, .slice p.a p.bs.length p.cap]
theorem layP : Lay pkv 3 := ⟨fun _ => rfl, by decide, fun x u hu => by
  simp only [pkv, List.mem_cons, List.not_mem_nil, or_false] at hu
  rcases hu with rfl | rfl | rfl <;> rfl⟩
theorem kindP : Kind Try.prog 41 36 3 40 := kind_of Try.underlying41 (z := .agg #[.int .i64 0, .int .i64 0, .slice none 0 0]) (by kernel_rfl) rfl
/-- An address that lies in W and in no block of D. -/
def Away (W : World) (D : Nat → Prop) (a : Option Addr) : Prop := ∀ g, a = some g → g.block < W.heap.size ∧ ¬ D g.block
structure PsAt (W : World) (a : Option Addr) (n c : Nat) (ps : List Pk) : Prop where
  row : Rw pkv 3 W a n c ps
  bytes : ∀ p ∈ ps, Rw byU 1 W p.a p.bs.length p.cap p.bs ∧ p.bs.length ≤ 281474976710656
theorem PsAt.chg {W W' : World} {D : Nat → Prop} {a : Option Addr} {n c : Nat} {ps : List Pk} (h : PsAt W a n c ps) (hC : Chg D W W') (ha : ∀ g, a = some g → ¬ D g.block) (hp : ∀ p ∈ ps, ∀ g, p.a = some g → ¬ D g.block) : PsAt W' a n c ps :=
  ⟨h.row.chg hC ha, fun p hpp => ⟨(h.bytes p hpp).1.chg hC (hp p hpp), (h.bytes p hpp).2⟩⟩
theorem nx_step {W W1 W2 : World} {q : Nat} {S1 S2 : Lk} {rv rv1 : Value} {xs xs1 : List X} (h1 : LinkAt W1 q S1 rv1 xs1) (hC1 : Chg (Blk q rv xs) W W1) (hb1 : ∀ g, Blk q rv1 xs1 g → Blk q rv xs g ∨ W.heap.size ≤ g) (h2 : Nx W1 W2 q rv1 xs1 S2) : Nx W W2 q rv xs S2 := by
  obtain ⟨rv2, xs2, h3, hC2, hb2⟩ := h2
  have := hC1.size
  have _r := h1
  refine ⟨rv2, xs2, h3, hC1.then hC2 hb1, fun g hg => ?_⟩
  rcases hb2 g hg with h | h
  · exact hb1 g h
  · exact .inr (by omega)
def sendS : Lk → List Pk → Lk
  | S, [] => S
  | S, p :: ps => sendS (begS S ⟨S.next, p.fr, p.tt, p.bs, false⟩) ps
theorem sendS_append : ∀ (ps : List Pk) (S : Lk) (p : Pk), sendS S (ps ++ [p]) = begS (sendS S ps) ⟨(sendS S ps).next, p.fr, p.tt, p.bs, false⟩
  | [], _, _ => rfl
  | _ :: ps, _, p => sendS_append ps _ p
theorem sendS_next : ∀ (ps : List Pk) (S : Lk), (sendS S ps).next = S.next + ps.length
  | [], _ => rfl
  | p :: ps, S => by rw [sendS, sendS_next ps]; simp [begS]; omega
theorem sendS_len : ∀ (ps : List Pk) (S : Lk), (sendS S ps).fl.length = S.fl.length + ps.length
  | [], _ => rfl
  | p :: ps, S => by rw [sendS, sendS_len ps]; simp [begS]; omega
theorem begS_ok {S : Lk} (h : S.Ok) (fr tt : Int) (bs : List UInt8) (sp : Bool) (hl : S.fl.length < S.most) (hn : S.next + 1 ≤ 1152921504606846976) : (begS S ⟨S.next, fr, tt, bs, sp⟩).Ok := by
  refine ⟨h.nd, h.most, by simp [begS]; omega, hn, ?_, ?_⟩
  · simp only [begS]
    rw [List.pairwise_append]
    refine ⟨h.rise, List.pairwise_singleton _ _, fun x hx y hy => ?_⟩
    simp only [List.mem_singleton] at hy
    subst hy
    exact h.lt x hx
  · intro f hf
    simp only [begS, List.mem_append, List.mem_singleton] at hf ⊢
    rcases hf with hf | rfl
    · have := h.lt f hf; omega
    · simp
theorem sendS_most : ∀ (ps : List Pk) (S : Lk), (sendS S ps).most = S.most ∧ (sendS S ps).nodes = S.nodes
  | [], _ => ⟨rfl, rfl⟩
  | p :: ps, S => by rw [sendS]; exact sendS_most ps _
theorem sendS_ok : ∀ (ps : List Pk) (S : Lk), S.Ok → S.fl.length + ps.length ≤ S.most → S.next + ps.length ≤ 1152921504606846976 → (sendS S ps).Ok
  | [], _, h, _, _ => h
  | p :: ps, S, h, h1, h2 => by
    simp only [List.length_cons] at h1 h2
    exact sendS_ok ps _ (begS_ok h _ _ _ _ (by omega) (by omega)) (by simp [begS]; omega) (by simp [begS]; omega)
theorem set3 {W : World} {q : Nat} {T : TypeId} {u0 u1 u2 : Value} (h : W.heap[q]? = some (.cells #[u0, u1, u2] T)) (v0 v1 v2 : Value) :
    ∃ W9, ((W.setCell ⟨q, 0, none⟩ v0).setCell ⟨q, 1, none⟩ v1).setCell ⟨q, 2, none⟩ v2 = W9 ∧ W9.heap[q]? = some (.cells #[v0, v1, v2] T) ∧ Chg (fun g => g = q) W W9 := by
  have e0 := heap_setCell_cells h 0 v0
  have e1 := heap_setCell_cells e0 1 v1
  have e2 := heap_setCell_cells e1 2 v2
  have hs : ∀ (i : Nat) (W : World) (u : Value), Chg (fun g => g = q) W (W.setCell ⟨q, i, none⟩ u) := fun i W u => Chg.set (D := fun g => g = q) (q := q) i W u rfl
  exact ⟨_, rfl, e2, ((hs 0 _ _).trans (hs 1 _ _)).trans (hs 2 _ _)⟩
/-- the copy of a packet that a range lays -/
theorem pbox (W : World) (fr tt : Int) (a : Option Addr) (n c : Nat) : ∃ V V2, W.alloc (.cells #[.int .i64 0, .int .i64 0, .slice none 0 0] 36) = V ∧ ((V.setCell ⟨W.heap.size, 0, none⟩ (.int .i64 fr)).setCell ⟨W.heap.size, 1, none⟩ (.int .i64 tt)).setCell ⟨W.heap.size, 2, none⟩ (.slice a n c) = V2 ∧ V.heap[W.heap.size]? = some (.cells #[.int .i64 0, .int .i64 0, .slice none 0 0] 36) ∧ V2.heap[W.heap.size]? = some (.cells #[.int .i64 fr, .int .i64 tt, .slice a n c] 36) ∧ Below W.heap.size W V2 := by
  obtain ⟨V, hV⟩ : ∃ V, W.alloc (.cells #[.int .i64 0, .int .i64 0, .slice none 0 0] 36) = V := ⟨_, rfl⟩
  have hVb : Below W.heap.size W V := by rw [← hV]; exact (Below.refl _ _).alloc (Nat.le_refl _) _
  have hVh : V.heap[W.heap.size]? = some (.cells #[.int .i64 0, .int .i64 0, .slice none 0 0] 36) := by rw [← hV]; exact (MapKept.heap_alloc W _).1
  obtain ⟨V2, h1, h2, h3⟩ := set3 hVh (.int .i64 fr) (.int .i64 tt) (.slice a n c)
  exact ⟨V, V2, hV, h1, hVh, h2, hVb.trans (h3.below (fun x e => by omega) hVb.size)⟩
def goodP (S : Lk) (p : Pk) : Bool := nodeB S p.fr && nodeB S p.tt
def sendE (S : Lk) (ps : List Pk) : Int := if ps.all (goodP S) then (if S.fl.length + ps.length ≤ S.most then 0 else 161) else 170
def sendV (S : Lk) (ps : List Pk) : Value := .tuple #[.int .i64 (if sendE S ps = 0 then (S.next : Int) else 0), .int .i64 (sendE S ps)]
def SendP (W : World) (q : Nat) (S : Lk) (rv : Value) (xs : List X) (ps : List Pk) (W' : World) : Prop := (sendE S ps ≠ 0 → Below W.heap.size W W') ∧ (sendE S ps = 0 → Nx W W' q rv xs (sendS S ps))
/-- Where the second loop of Send stands. -/
def SendI (W : World) (q : Nat) (S : Lk) (rv : Value) (xs : List X) (ps : List Pk) (k : Nat) (wr : World) : Prop := Nx W wr q rv xs (sendS S (ps.take k))
theorem all_take {S : Lk} {ps : List Pk} {k : Nat} {p : Pk} (h : (ps.take k).all (goodP S) = true) (hp : ps[k]? = some p) (hg : goodP S p = true) : (ps.take (k + 1)).all (goodP S) = true := by
  rw [List.take_add_one, hp]
  simp only [Option.toList, List.all_append, h, List.all_cons, hg, List.all_nil, Bool.and_self]
set_option maxHeartbeats 8000000 in
theorem send_any {W : World} {q : Nat} {S : Lk} {rv : Value} {xs : List X} (h : LinkAt W q S rv xs) (hO : S.Ok) {a : Option Addr} {n c : Nat} {ps : List Pk} (hP : PsAt W a n c ps) (ha : Away W (Blk q rv xs) a) (hp : ∀ p ∈ ps, Away W (Blk q rv xs) p.a) (hn : n ≤ 140737488355328) (hN : S.next + n ≤ 1152921504606846976) :
    Calls Try.prog 13 #[.pointer (some ⟨q, 0, none⟩), .slice a n c] W fun e W' => e = .returned (sendV S ps) ∧ SendP W q S rv xs ps W' := by
  obtain ⟨z, hz⟩ : ∃ z, sendV S ps = z := ⟨_, rfl⟩
  obtain ⟨R, hR⟩ : ∃ R, SendP W q S rv xs ps = R := ⟨_, rfl⟩
  have HZ : Hid (sendV S ps = z ∧ SendP W q S rv xs ps = R) := ⟨hz, hR⟩
  rw [hz, hR]
  have HL : Hid (LinkAt W q S rv xs ∧ S.Ok ∧ PsAt W a n c ps ∧ Away W (Blk q rv xs) a ∧ (∀ p ∈ ps, Away W (Blk q rv xs) p.a) ∧ S.next + n ≤ 1152921504606846976) := ⟨h, hO, hP, ha, hp, hN⟩
  have HI : Hid (∀ w k, Below W.heap.size W w → Calls Try.prog 25 #[.pointer (some ⟨q, 0, none⟩), .int .i64 k] w fun e w' => e = .returned (.bool (nodeB S k)) ∧ w' = w) := fun w k hB => isNode_any (h.below hB) k
  obtain ⟨d, hd⟩ : ∃ d : Int, (S.most : Int) - (xs.length : Int) = d := ⟨_, rfl⟩
  have HR : Hid (∀ w, Below W.heap.size W w → Calls Try.prog 26 #[.pointer (some ⟨q, 0, none⟩)] w fun e w' => e = .returned (.int .i64 d) ∧ Below W.heap.size W w') := fun w hB => (room_any (h.below hB) hO).mono (by rintro e w' ⟨h1, h2⟩; exact ⟨by rw [h1, hd], hB.trans (h2.mono hB.size)⟩)
  have HD : Hid ((S.most : Int) - (xs.length : Int) = d) := hd
  clear h hO hP ha hp hN hz hR hd
  go_enter Try.func13, Try.ntmps13
  go_wp2_with fail
  go_loopw [13] (fun vi wr => ∃ k : Nat, k ≤ n ∧ vi = .int .i64 (k : Int) ∧ Hid ((ps.take k).all (goodP S) = true ∧ Below W.heap.size W wr)) (fun vi _ => n - (RowKit.intOf vi).toNat)
  case atStart => exact ⟨0, Nat.zero_le _, rfl, by simp, Below.refl _ _⟩
  case round =>
    obtain ⟨k, hk, rfl, hS⟩ := hrel
    by_cases hlt : k < n
    · have hlt2 : (k : Int) < (n : Int) := by omega
      obtain ⟨g, off, p, hpa, hg, hpk, hcell⟩ := (HL.out.2.2.1.row.below hS.out.2).at k hlt
      subst hpa
      have c0 := hcell 0 _ rfl
      have c1 := hcell 1 _ rfl
      have c2 := hcell 2 _ rfl
      simp only [Nat.add_zero] at c0
      obtain ⟨V, V2, hV, hV2, hVh, hh, hb⟩ := pbox wr p.fr p.tt p.a p.bs.length p.cap
      obtain ⟨b0, b1, b2⟩ := box3 hVh
      have z0 := Lib.frozen_of_heap hVh 0
      have z1 := Lib.frozen_of_heap hVh 1
      have z2 := Lib.frozen_of_heap hVh 2
      obtain ⟨d0, d1, d2⟩ := box3 hh
      have hB2 : Below W.heap.size W V2 := hS.out.2.trans (hb.mono hS.out.2.size)
      have I1 := HI.out V2 p.fr hB2
      have I2 := HI.out V2 p.tt hB2
      have HB2 : Hid (Below W.heap.size W V2) := hB2
      have HPK : Hid (ps[k]? = some p) := hpk
      have e1 : IntKind.i64.wrap ((k : Int) + 1) = (k : Int) + 1 := IntWalk.i64_in _ (by omega)
      obtain ⟨bl, hbl⟩ : ∃ bl, p.bs.length = bl := ⟨_, rfl⟩
      rw [hbl] at c2 hV2 d2
      clear hb hVh hh hcell hg hB2 hpk hbl
      cases hf : nodeB S p.fr with
      | false =>
        rw [hf] at I1
        go_wp2_with fail
        refine I1.mono ?_
        rintro e w1 ⟨rfl, hw⟩
        obtain rfl := hw.symm
        go_wp2_with fail
        go_ret2
        have e0 : sendE S ps = 170 := by
          unfold sendE; rw [if_neg]; intro hall
          have := List.all_eq_true.1 hall p (List.mem_of_getElem? HPK.out)
          simp [goodP, hf] at this
        refine ⟨by rw [← HZ.out.1]; simp [sendV, e0], ?_⟩
        rw [← HZ.out.2]
        exact ⟨fun _ => HB2.out, fun h => by rw [e0] at h; simp at h⟩
      | true =>
        rw [hf] at I1
        cases ht : nodeB S p.tt with
        | false =>
          rw [ht] at I2
          go_wp2_with fail
          refine I1.mono ?_
          rintro e w1 ⟨rfl, hw⟩
          obtain rfl := hw.symm
          go_wp2_with fail
          refine I2.mono ?_
          rintro e w1 ⟨rfl, hw⟩
          obtain rfl := hw.symm
          go_wp2_with fail
          go_ret2
          have e0 : sendE S ps = 170 := by
            unfold sendE; rw [if_neg]; intro hall
            have := List.all_eq_true.1 hall p (List.mem_of_getElem? HPK.out)
            simp [goodP, ht] at this
          refine ⟨by rw [← HZ.out.1]; simp [sendV, e0], ?_⟩
          rw [← HZ.out.2]
          exact ⟨fun _ => HB2.out, fun h => by rw [e0] at h; simp at h⟩
        | true =>
          rw [ht] at I2
          go_wp2_with fail
          refine I1.mono ?_
          rintro e w1 ⟨rfl, hw⟩
          obtain rfl := hw.symm
          go_wp2_with fail
          refine I2.mono ?_
          rintro e w1 ⟨rfl, hw⟩
          obtain rfl := hw.symm
          go_wp2_with fail
          exact ⟨⟨k + 1, by omega, by simp, all_take hS.out.1 HPK.out (by simp [goodP, hf, ht]), HB2.out⟩, by simp [RowKit.intOf]; omega⟩
    · have hlt2 : ¬ (k : Int) < (n : Int) := by omega
      obtain rfl : k = n := by omega
      have hall : ps.all (goodP S) = true := by
        have := hS.out.1
        rw [List.take_of_length_le (by rw [HL.out.2.2.1.row.len]; exact Nat.le_refl _)] at this
        exact this
      have HA : Hid (ps.all (goodP S) = true) := hall
      have R1 := HR.out wr hS.out.2
      clear hall
      by_cases hroom : d < (k : Int)
      · go_wp2_with fail
        refine R1.mono ?_
        rintro e w1 ⟨rfl, hb⟩
        have hb' : Hid (Below W.heap.size W w1) := hb
        clear hb R1
        go_wp2_with fail
        go_ret2
        have e0 : sendE S ps = 161 := by
          unfold sendE; rw [if_pos HA.out, if_neg]
          have := HD.out
          have := HL.out.1.len
          have := HL.out.2.2.1.row.len
          omega
        refine ⟨by rw [← HZ.out.1]; simp [sendV, e0], ?_⟩
        rw [← HZ.out.2]
        exact ⟨fun _ => hb'.out, fun h => by rw [e0] at h; simp at h⟩
      · go_wp2_with fail
        refine R1.mono ?_
        rintro e w1 ⟨rfl, hb⟩
        have hb' : Hid (Below W.heap.size W w1) := hb
        have m2 := (box4 (HL.out.1.below hb).box).2.2.1
        clear hb R1
        obtain ⟨nx, hnx⟩ : ∃ nx : Int, (S.next : Int) = nx := ⟨_, rfl⟩
        have HNX : Hid ((S.next : Int) = nx) := hnx
        rw [hnx] at m2
        clear hnx
        have hfit : Hid (S.fl.length + ps.length ≤ S.most) := by
          have := HD.out
          have := HL.out.1.len
          have := HL.out.2.2.1.row.len
          show _ ≤ _
          omega
        have e0 : Hid (sendE S ps = 0) := by
          show _ = _
          unfold sendE; rw [if_pos HA.out, if_pos hfit.out]
        go_wp2_with fail
        obtain ⟨wo, hwo⟩ : ∃ wo, wo = wr := ⟨_, rfl⟩
        subst hwo
        go_loopw [41] (fun vi wr => ∃ j : Nat, j ≤ k ∧ vi = .int .i64 (j : Int) ∧ Hid (SendI W q S rv xs ps j wr)) (fun vi _ => k - (RowKit.intOf vi).toNat)
        case atStart => exact ⟨0, Nat.zero_le _, rfl, HL.out.1.nx hb'.out⟩
        case round =>
          obtain ⟨j, hj, rfl, hS2⟩ := hrel
          by_cases hjl : j < k
          · have hjl2 : (j : Int) < (k : Int) := by omega
            obtain ⟨rv1, xs1, hL1, hC1, hB1⟩ := hS2.out
            have hPs := HL.out.2.2.1.chg hC1 (fun g hg => (HL.out.2.2.2.1 g hg).2) (fun p hpp g hg => (HL.out.2.2.2.2.1 p hpp g hg).2)
            obtain ⟨g, off, p, hpa, hg, hpk, hcell⟩ := hPs.row.at j hjl
            have hpm := List.mem_of_getElem? hpk
            subst hpa
            have c0 := hcell 0 _ rfl
            have c1 := hcell 1 _ rfl
            have c2 := hcell 2 _ rfl
            simp only [Nat.add_zero] at c0
            obtain ⟨V, V2, hV, hV2, hVh, hh, hb⟩ := pbox wr p.fr p.tt p.a p.bs.length p.cap
            obtain ⟨b0, b1, b2⟩ := box3 hVh
            have z0 := Lib.frozen_of_heap hVh 0
            have z1 := Lib.frozen_of_heap hVh 1
            have z2 := Lib.frozen_of_heap hVh 2
            obtain ⟨d0, d1, d2⟩ := box3 hh
            have hlen := HL.out.2.2.1.row.len
            have htk : (ps.take j).length = j := by rw [List.length_take]; omega
            have hok : (sendS S (ps.take j)).Ok := sendS_ok _ S HL.out.2.1 (by have := hfit.out; omega) (by have := HL.out.2.2.2.2.2; omega)
            have hx1 : xs1.length + 1 ≤ 1048576 := by
              have := hL1.len
              rw [sendS_len, htk] at this
              have := hfit.out
              have := HL.out.2.1.most
              omega
            have G1 := begin_any (hL1.below hb) hok hx1 p.fr p.tt ((hPs.bytes p hpm).1.below hb) (hPs.bytes p hpm).2 false
            have HG : Hid (Calls Try.prog 27 #[.pointer (some ⟨q, 0, none⟩), .agg #[.int .i64 p.fr, .int .i64 p.tt, .slice p.a p.bs.length p.cap], .bool false] V2 fun e W' => ∃ v : Int, e = .returned (.int .i64 v) ∧ SendI W q S rv xs ps (j + 1) W') := G1.mono (by
              rintro e w' ⟨he, hbp⟩
              refine ⟨_, he, ?_⟩
              have h3 := nx_step hL1 hC1 hB1 ((hbp.from hb).nx)
              unfold SendI
              rw [List.take_add_one, hpk]
              simp only [Option.toList]
              rw [sendS_append]
              exact h3)
            have e1 : IntKind.i64.wrap ((j : Int) + 1) = (j : Int) + 1 := IntWalk.i64_in _ (by omega)
            obtain ⟨bl, hbl⟩ : ∃ bl, p.bs.length = bl := ⟨_, rfl⟩
            rw [hbl] at c2 hV2 d2 HG
            clear hb hVh hh hcell hg hpk hbl hPs hL1 hC1 hB1 hpm hlen htk hok hx1 G1
            go_wp2_with fail
            refine HG.out.mono ?_
            rintro e w2 ⟨v, rfl, hI⟩
            have HI2 : Hid (SendI W q S rv xs ps (j + 1) w2) := hI
            clear hI
            go_wp2_with fail
            exact ⟨⟨j + 1, by omega, by simp, HI2.out⟩, by simp [RowKit.intOf]; omega⟩
          · have hjl2 : ¬ (j : Int) < (k : Int) := by omega
            obtain rfl : j = k := by omega
            go_wp2_with fail
            go_ret2
            refine ⟨by rw [← HZ.out.1]; simp [sendV, e0.out, HNX.out], ?_⟩
            rw [← HZ.out.2]
            refine ⟨fun h => absurd e0.out h, fun _ => ?_⟩
            have := hS2.out
            unfold SendI at this
            rw [List.take_of_length_le (by rw [HL.out.2.2.1.row.len]; exact Nat.le_refl _)] at this
            exact this
end Go.Proofs.Ytdmhajlhpieedaa
