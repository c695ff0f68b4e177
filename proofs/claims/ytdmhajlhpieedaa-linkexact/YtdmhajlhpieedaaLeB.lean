import Derived.Test.YtdmhajlhpieedaaLeA
import Derived.Test.YtdmhajlhpieedaaLcO
/-! plays of any step; two links and a book. -/
namespace Go.Proofs.Ytdmhajlhpieedaa
open Go.RowKit Go.Lib Go.Shelf
set_option maxRecDepth 100000

set_option maxHeartbeats 4000000 in
theorem plays_flights {K J C : Nat → Prop} {W : World} {q r h : Nat} {S : Lk} {gv wv lv : Value} {gs : List Br} {ls : List Fs} (T : Trio K J C W q r h S gv wv lv gs ls) (hev : ls.length % 2 = 0) (sp : Sp) (hk : sp.kind = 6) (hs : sumF S ≤ 281474976710656) (hb : ∀ f ∈ S.fl, f.bs.length ≤ 140737488355326) (hg : gs.length + 2 * S.fl.length ≤ 1099511627776) (hl : ls.length ≤ 1099511627776) : Calls Try.prog 21 #[.pointer (some ⟨q, 0, none⟩), .pointer (some ⟨r, 0, none⟩), sp.val, .pointer (some ⟨h, 0, none⟩)] W fun e w' => e = .returned (.bool true) ∧ TriP K J C W q r h S (gs.length + 2 * S.fl.length) (ls.length + 2) w' := by
  obtain ⟨W1, hW1⟩ : ∃ W1, W.alloc (spBox sp) = W1 := ⟨_, rfl⟩
  have hB1 : Below W.heap.size W W1 := by rw [← hW1]; exact (Below.refl _ _).alloc (Nat.le_refl _) _
  have hx1 : W1.heap[W.heap.size]? = some (spBox sp) := by rw [← hW1]; exact heap_alloc_new W _
  have HS := flights_true (T.below hB1) hev hs hb hg hl
  have HF : Hid (∀ w', TriP K J C W1 q r h S (gs.length + 2 * S.fl.length) (ls.length + 2) w' → TriP K J C W q r h S (gs.length + 2 * S.fl.length) (ls.length + 2) w') := fun w' hp => TriP.from hB1 hp
  obtain ⟨r0, r1, r2, r3, r4, r5⟩ := box6 hx1
  unfold Sp.val
  unfold spBox at hW1
  rw [hk] at hW1 r0 ⊢
  obtain ⟨mk, hmk⟩ : ∃ mk : Int, (sp.mask.toNat : Int) = mk := ⟨_, rfl⟩
  rw [hmk] at hW1 r4 ⊢
  clear T hev hs hb hg hl hB1 hx1 hk hmk
  go_enter Try.func21, Try.ntmps21
  go_wp2_with fail
  refine HS.mono ?_
  rintro e w2 ⟨rfl, hp⟩
  have HG : Hid (TriP K J C W q r h S (gs.length + 2 * S.fl.length) (ls.length + 2) w2) := HF.out w2 hp
  clear hp HF HS
  go_wp2_with fail
  go_ret
  exact ⟨rfl, HG.out⟩
/-- What a link may hold behind m steps. -/
def Bd (S : Lk) (m : Nat) : Prop := (∀ f ∈ S.fl, f.bs.length ≤ 1048576) ∧ S.next ≤ m * 1048577
theorem Bd.mono {S : Lk} {m k : Nat} (h : Bd S m) (hm : m ≤ k) : Bd S k := ⟨h.1, Nat.le_trans h.2 (Nat.mul_le_mul_right _ hm)⟩
theorem Bd.del {S : Lk} {m : Nat} (h : Bd S m) (k : Int) : Bd (delS S k) m := ⟨fun f hf => h.1 f (List.mem_filter.1 hf).1, h.2⟩
theorem Bd.beg {S : Lk} {m : Nat} {f : Fg} (h : Bd S m) (hf : f.bs.length ≤ 1048576) : ∀ f' ∈ (begS S f).fl, f'.bs.length ≤ 1048576 := fun f' hf' => by
  rcases List.mem_append.1 hf' with h1 | h1
  · exact h.1 f' h1
  · simp only [List.mem_singleton] at h1
    subst h1; exact hf
theorem Bd.copy {S : Lk} {m : Nat} (h : Bd S m) (k : Int) : Bd (copyS S k) (m + 1) := by
  have h2 := h.2
  unfold copyS
  rcases hh : hitF S k with _ | f
  · exact h.mono (by omega)
  · dsimp only
    split
    · refine ⟨Bd.beg h (h.1 f (List.mem_of_find?_eq_some hh)), ?_⟩
      show S.next + 1 ≤ _
      omega
    · exact h.mono (by omega)
theorem Bd.turn {S : Lk} {m : Nat} (h : Bd S m) (k at_ : Int) (mk : UInt8) : Bd (turnS S k at_ mk) m := by
  unfold turnS
  split
  · refine ⟨fun f hf => ?_, h.2⟩
    obtain ⟨f0, h1, rfl⟩ := List.mem_map.1 hf
    split
    · simp only [spF, List.length_set]; exact h.1 f0 h1
    · exact h.1 f0 h1
  · exact h
theorem sendS_bd : ∀ (ps : List Pk) (S : Lk) (N : Nat), (∀ f ∈ S.fl, f.bs.length ≤ 1048576) → S.next ≤ N → (∀ p ∈ ps, p.bs.length ≤ 1048576) → (∀ f ∈ (sendS S ps).fl, f.bs.length ≤ 1048576) ∧ (sendS S ps).next ≤ N + ps.length
  | [], S, N, h1, h2, _ => ⟨h1, by show S.next ≤ N + 0; omega⟩
  | p :: ps, S, N, h1, h2, h3 => by
    obtain ⟨h4, h5⟩ := sendS_bd ps (begS S ⟨S.next, p.fr, p.tt, p.bs, false⟩) (N + 1) (fun f hf => by
      rcases List.mem_append.1 hf with h6 | h6
      · exact h1 f h6
      · simp only [List.mem_singleton] at h6
        subst h6; exact h3 p (List.mem_cons_self ..)) (by show S.next + 1 ≤ N + 1; omega) (fun x hx => h3 x (List.mem_cons_of_mem _ hx))
    exact ⟨h4, by rw [List.length_cons]; rw [sendS]; omega⟩
theorem Bd.send {S : Lk} {m : Nat} (h : Bd S m) {ps : List Pk} (hp : ∀ p ∈ ps, p.bs.length ≤ 1048576) (hn : ps.length ≤ 1048576) : Bd (sendR S ps) (m + 1) := by
  unfold sendR
  split
  · obtain ⟨h1, h2⟩ := sendS_bd ps S _ h.1 h.2 hp
    exact ⟨h1, by omega⟩
  · exact h.mono (by omega)
theorem TriP.mono {K J C : Nat → Prop} {W W' : World} {q r h : Nat} {S' : Lk} {ng nl ng' nl' : Nat} (hp : TriP K J C W q r h S' ng nl W') (h1 : ng ≤ ng') (h2 : nl ≤ nl') : TriP K J C W q r h S' ng' nl' W' := by
  obtain ⟨K', J', C', gv, wv, lv, gs, ls, k1, k2, k3, k4, k5, k6⟩ := hp
  exact ⟨K', J', C', gv, wv, lv, gs, ls, k1, k2, k3, by omega, by omega, k6⟩
theorem plays_any {K J C : Nat → Prop} {W0 W : World} {q r h m : Nat} {S : Lk} {gv wv lv : Value} {gs : List Br} {ls : List Fs} (T : Trio K J C W q r h S gv wv lv gs ls) (hev : ls.length % 2 = 0) (sp : Sp) (hB0 : Below W0.heap.size W0 W) (hin : StepIn W0 1048576 sp) (hK0 : ∀ g, K g ∨ J g ∨ C g → W0.heap.size ≤ g) (hbd : Bd S m) (hm : m ≤ 100) (hg : gs.length ≤ 300000000) (hl : ls.length ≤ 1000) : Calls Try.prog 21 #[.pointer (some ⟨q, 0, none⟩), .pointer (some ⟨r, 0, none⟩), sp.val, .pointer (some ⟨h, 0, none⟩)] W fun e w' => e = .returned (.bool true) ∧ ∃ S', Bd S' (m + 1) ∧ TriP K J C W q r h S' (gs.length + 2097154) (ls.length + 2) w' := by
  have hO := T.duo.l.1
  have hlen : S.fl.length ≤ 1048576 := Nat.le_trans hO.len hO.most
  have hb1 : ∀ f ∈ S.fl, f.bs.length ≤ 140737488355326 := fun f hf => Nat.le_trans (hbd.1 f hf) (by decide)
  have hb2 : ∀ f ∈ S.fl, f.bs.length ≤ 140737488355328 := fun f hf => Nat.le_trans (hbd.1 f hf) (by decide)
  have hnx := hbd.2
  by_cases h1 : sp.kind = 1
  · obtain ⟨ps, k1, k2, k3⟩ := hin
    have hpl := k1.row.len
    refine (plays_send T.duo sp _ (ps := ps) ⟨⟨k1.row.below hB0, fun p hp => ⟨(k1.bytes p hp).1.below hB0, (k1.bytes p hp).2⟩⟩, fun h0 g hg => ?_, fun p hp => ⟨fun h0 g hg => ?_, Nat.le_trans (k3 p hp) (by decide)⟩, by omega, by omega⟩ h1).mono ?_
    · obtain ⟨g', off, e, hlt, _⟩ := k1.row.cells h0
      rw [hg] at e
      cases e
      exact ⟨Nat.lt_of_lt_of_le hlt hB0.size, fun e => by have := hK0 g' (e.elim .inl (fun e => .inr (.inl e))); omega⟩
    · obtain ⟨g', off, e, hlt, _⟩ := (k1.bytes p hp).1.cells h0
      rw [hg] at e
      cases e
      exact ⟨Nat.lt_of_lt_of_le hlt hB0.size, fun e => by have := hK0 g' (e.elim .inl (fun e => .inr (.inl e))); omega⟩
    · rintro e w' ⟨e1, e2⟩
      exact ⟨e1, _, hbd.send k3 (by omega), (T.duoP hev e2).mono (by omega) (by omega)⟩
  by_cases h2 : sp.kind = 2
  · refine (plays_deliver T hev sp h2 hb1 (by omega)).mono ?_
    rintro e w' ⟨e1, e2⟩
    exact ⟨e1, _, (hbd.del sp.k).mono (by omega), e2.mono (by omega) (by omega)⟩
  by_cases h3 : sp.kind = 3
  · refine (plays_drop T.duo sp _ h3).mono ?_
    rintro e w' ⟨e1, e2⟩
    exact ⟨e1, _, (hbd.del sp.k).mono (by omega), (T.duoP hev e2).mono (by omega) (by omega)⟩
  by_cases h4 : sp.kind = 4
  · refine (plays_copy T.duo sp _ h4 hb2 (by omega)).mono ?_
    rintro e w' ⟨e1, e2⟩
    exact ⟨e1, _, hbd.copy sp.k, (T.duoP hev e2).mono (by omega) (by omega)⟩
  by_cases h5 : sp.kind = 5
  · refine (plays_spoil T.duo sp _ h5 hb2).mono ?_
    rintro e w' ⟨e1, e2⟩
    exact ⟨e1, _, (hbd.turn sp.k sp.at_ sp.mask).mono (by omega), (T.duoP hev e2).mono (by omega) (by omega)⟩
  by_cases h6 : sp.kind = 6
  · have hsum : sumF S ≤ 281474976710656 := by
      have e1 := sum_le S.fl 1048576 hbd.1
      have e2 : S.fl.length * 1048576 ≤ 1048576 * 1048576 := Nat.mul_le_mul_right _ hlen
      unfold sumF
      omega
    refine (plays_flights T hev sp h6 hsum hb1 (by omega) (by omega)).mono ?_
    rintro e w' ⟨e1, e2⟩
    exact ⟨e1, _, hbd.mono (by omega), e2.mono (by omega) (by omega)⟩
  by_cases h7 : sp.kind = 7
  · refine (plays_sizes T.duo sp _ h7).mono ?_
    rintro e w' ⟨e1, e2⟩
    exact ⟨e1, _, hbd.mono (by omega), (T.duoP hev e2).mono (by omega) (by omega)⟩
  · refine (plays_idle T.duo sp _ (by omega)).mono ?_
    rintro e w' ⟨e1, e2⟩
    exact ⟨e1, _, hbd.mono (by omega), (T.duoP hev e2).mono (by omega) (by omega)⟩
/-- The links of the sentence and its book: the first pair is played on; sec: the other pair, if there is one. -/
def St2 (W0 : World) (h q r : Nat) (sec : Option (Nat × Nat)) (m : Nat) (W : World) : Prop := ∃ K J C S gv wv lv gs ls, Trio K J C W q r h S gv wv lv gs ls ∧ Bd S m ∧ (∀ g, K g ∨ J g ∨ C g → W0.heap.size ≤ g) ∧ Below W0.heap.size W0 W ∧ gs.length ≤ m * 2097154 ∧ ls.length ≤ m * 2 ∧ ls.length % 2 = 0 ∧
  ∀ q1 r1, sec = some (q1, r1) → ∃ K1 J1 S1, Duo K1 J1 W q1 r1 S1 ∧ Bd S1 m ∧ ∀ g, K1 g ∨ J1 g → ¬ (K g ∨ J g ∨ C g) ∧ W0.heap.size ≤ g
theorem St2.tri {W0 W W' : World} {h q r m : Nat} {sec : Option (Nat × Nat)} {K J C : Nat → Prop} {S' : Lk} {ng nl : Nat} (hK0 : ∀ g, K g ∨ J g ∨ C g → W0.heap.size ≤ g) (hB0 : Below W0.heap.size W0 W) (hbd : Bd S' (m + 1)) (hng : ng ≤ (m + 1) * 2097154) (hnl : nl ≤ (m + 1) * 2) (hp : TriP K J C W q r h S' ng nl W')
    (hs : ∀ q1 r1, sec = some (q1, r1) → ∃ K1 J1 S1, Duo K1 J1 W q1 r1 S1 ∧ Bd S1 m ∧ ∀ g, K1 g ∨ J1 g → ¬ (K g ∨ J g ∨ C g) ∧ W0.heap.size ≤ g) : St2 W0 h q r sec (m + 1) W' := by
  obtain ⟨K', J', C', gv, wv, lv, gs, ls, k1, k2, k3, k4, k5, k6⟩ := hp
  have s0 := hB0.size
  refine ⟨K', J', C', S', gv, wv, lv, gs, ls, k1, hbd, fun g hg => ?_, hB0.trans (k3.below hK0 s0), by omega, by omega, k6, fun q1 r1 e => ?_⟩
  · rcases k2 g hg with h1 | h1
    · exact hK0 g h1
    · omega
  · obtain ⟨K1, J1, S1, d1, d2, d3⟩ := hs q1 r1 e
    refine ⟨K1, J1, S1, ⟨d1.l.chg k3 (fun g hg => (d3 g (.inl hg)).1), d1.f.chg k3 (fun g hg => (d3 g (.inr hg)).1), fun g hg => Nat.lt_of_lt_of_le (d1.kl g hg) k3.size, fun g hg => Nat.lt_of_lt_of_le (d1.jl g hg) k3.size, d1.kj⟩, d2.mono (by omega), fun g hg => ⟨fun e => ?_, (d3 g hg).2⟩⟩
    rcases k2 g e with h1 | h1
    · exact (d3 g hg).1 h1
    · rcases hg with h2 | h2
      · have := d1.kl g h2; omega
      · have := d1.jl g h2; omega
theorem St2.play {W0 W : World} {h q r m : Nat} {sec : Option (Nat × Nat)} (T : St2 W0 h q r sec m W) (sp : Sp) (hin : StepIn W0 1048576 sp) (hm : m ≤ 100) : Calls Try.prog 21 #[.pointer (some ⟨q, 0, none⟩), .pointer (some ⟨r, 0, none⟩), sp.val, .pointer (some ⟨h, 0, none⟩)] W fun e w' => e = .returned (.bool true) ∧ St2 W0 h q r sec (m + 1) w' := by
  obtain ⟨K, J, C, S, gv, wv, lv, gs, ls, k1, k2, k3, k4, k5, k6, k7, k8⟩ := T
  refine (plays_any k1 k7 sp k4 hin k3 k2 hm (by omega) (by omega)).mono ?_
  rintro e w' ⟨e1, S', e2, e3⟩
  exact ⟨e1, St2.tri k3 k4 e2 (by omega) (by omega) e3 k8⟩
theorem St2.fl {W0 W : World} {h q r m : Nat} {sec : Option (Nat × Nat)} (T : St2 W0 h q r sec m W) (hm : m ≤ 100) : Calls Try.prog 23 #[.pointer (some ⟨q, 0, none⟩), .pointer (some ⟨r, 0, none⟩), .pointer (some ⟨h, 0, none⟩)] W fun e w' => e = .returned (.bool true) ∧ St2 W0 h q r sec (m + 1) w' := by
  obtain ⟨K, J, C, S, gv, wv, lv, gs, ls, k1, k2, k3, k4, k5, k6, k7, k8⟩ := T
  have hO := k1.duo.l.1
  have hlen : S.fl.length ≤ 1048576 := Nat.le_trans hO.len hO.most
  have hsum : sumF S ≤ 281474976710656 := by
    have e1 := sum_le S.fl 1048576 k2.1
    have e2 : S.fl.length * 1048576 ≤ 1048576 * 1048576 := Nat.mul_le_mul_right _ hlen
    unfold sumF
    omega
  refine (flights_true k1 k7 hsum (fun f hf => Nat.le_trans (k2.1 f hf) (by decide)) (by omega) (by omega)).mono ?_
  rintro e w' ⟨e1, e3⟩
  exact ⟨e1, St2.tri k3 k4 (k2.mono (by omega)) (by omega) (by omega) e3 k8⟩
theorem St2.below {W0 W W' : World} {h q r m : Nat} {sec : Option (Nat × Nat)} (T : St2 W0 h q r sec m W) (hB : Below W.heap.size W W') : St2 W0 h q r sec m W' := by
  obtain ⟨K, J, C, S, gv, wv, lv, gs, ls, k1, k2, k3, k4, k5, k6, k7, k8⟩ := T
  refine ⟨K, J, C, S, gv, wv, lv, gs, ls, k1.below hB, k2, k3, k4.trans (hB.mono k4.size), k5, k6, k7, fun q1 r1 e => ?_⟩
  obtain ⟨K1, J1, S1, d1, d2, d3⟩ := k8 q1 r1 e
  exact ⟨K1, J1, S1, d1.below hB, d2, d3⟩
theorem St2.hold {W0 W : World} {h q r m : Nat} {sec : Option (Nat × Nat)} (T : St2 W0 h q r sec m W) (hm : m ≤ 100) : Calls Try.prog 22 #[.pointer (some ⟨h, 0, none⟩)] W fun e w' => e = .returned (.bool true) ∧ St2 W0 h q r sec m w' := by
  have T0 := T
  obtain ⟨K, J, C, S, gv, wv, lv, gs, ls, k1, k2, k3, k4, k5, k6, k7, k8⟩ := T
  refine (hold_true k1.bk.at_ (by omega) (by omega)).mono ?_
  rintro e w' ⟨e1, e2⟩
  exact ⟨e1, T0.below e2⟩
theorem St2.mono {W0 W : World} {h q r m k : Nat} {sec : Option (Nat × Nat)} (T : St2 W0 h q r sec m W) (hk : m ≤ k) : St2 W0 h q r sec k W := by
  obtain ⟨K, J, C, S, gv, wv, lv, gs, ls, k1, k2, k3, k4, k5, k6, k7, k8⟩ := T
  refine ⟨K, J, C, S, gv, wv, lv, gs, ls, k1, k2.mono hk, k3, k4, Nat.le_trans k5 (Nat.mul_le_mul_right _ hk), Nat.le_trans k6 (Nat.mul_le_mul_right _ hk), k7, fun q1 r1 e => ?_⟩
  obtain ⟨K1, J1, S1, d1, d2, d3⟩ := k8 q1 r1 e
  exact ⟨K1, J1, S1, d1, d2.mono hk, d3⟩
theorem St2.swap {W0 W : World} {h q r q1 r1 m : Nat} (T : St2 W0 h q r (some (q1, r1)) m W) : St2 W0 h q1 r1 (some (q, r)) m W := by
  obtain ⟨K, J, C, S, gv, wv, lv, gs, ls, k1, k2, k3, k4, k5, k6, k7, k8⟩ := T
  obtain ⟨K1, J1, S1, d1, d2, d3⟩ := k8 q1 r1 rfl
  refine ⟨K1, J1, C, S1, gv, wv, lv, gs, ls, ⟨d1, k1.bk, fun g hg => ⟨fun e => (d3 g (.inl e)).1 (.inr (.inr hg)), fun e => (d3 g (.inr e)).1 (.inr (.inr hg))⟩⟩, d2, fun g hg => ?_, k4, k5, k6, k7, fun q2 r2 e => ?_⟩
  · rcases hg with e | e | e
    · exact (d3 g (.inl e)).2
    · exact (d3 g (.inr e)).2
    · exact k3 g (.inr (.inr e))
  · cases e
    refine ⟨K, J, S, k1.duo, k2, fun g hg => ⟨fun e => ?_, k3 g (hg.elim .inl (fun e => .inr (.inl e)))⟩⟩
    rcases e with e | e | e
    · exact (d3 g (.inl e)).1 (hg.elim .inl (fun e => .inr (.inl e)))
    · exact (d3 g (.inr e)).1 (hg.elim .inl (fun e => .inr (.inl e)))
    · exact hg.elim (k1.ap g e).1 (k1.ap g e).2
/-- What opened makes. -/
theorem opened_duo (n m : Nat) (h0 : 1 ≤ n) (h1 : n ≤ 9) (h3 : m ≤ 1048576) (w : World) : Calls Try.prog 9 #[.agg #[.int .i64 (n : Int), .int .i64 (m : Int)]] w fun e w' => ∃ q r, e = .returned (.tuple #[.pointer (some ⟨q, 0, none⟩), .pointer (some ⟨r, 0, none⟩), .bool true]) ∧ w.heap.size ≤ q ∧ w.heap.size ≤ r ∧ Duo (fun g => g = q) (fun g => g = r) w' q r (lk0 n m) ∧ Below w.heap.size w w' := by
  refine (opened_ok n m h0 h1 h3 w).mono ?_
  rintro e w' ⟨q, r, e1, e2, e3, e4, e5, e6, e7⟩
  have hO : (lk0 n m).Ok := ⟨h1, h3, Nat.zero_le _, Nat.zero_le _, List.Pairwise.nil, fun f hf => by cases hf⟩
  refine ⟨q, r, e1, e2, e3, ⟨⟨hO, _, _, e5, fun g hg => ?_⟩, ⟨hO, _, [], ⟨e6, offF_nil w', (fun y hy => by cases hy), rfl⟩, fun g hg => ?_⟩, fun g hg => ?_, fun g hg => ?_, fun g hg hj => ?_⟩, e7⟩
  · rcases hg with h | h | ⟨x, hx, _⟩
    · exact h
    · simp [Value.ownBlock] at h
    · cases hx
  · rcases hg with h | h | ⟨x, hx, _⟩
    · exact h
    · simp [Value.ownBlock] at h
    · cases hx
  · subst hg; exact (Array.getElem?_eq_some_iff.1 e5.box).1
  · subst hg; exact (Array.getElem?_eq_some_iff.1 e6).1
  · subst hg; exact e4 hj.symm
theorem bd0 (n m : Nat) : Bd (lk0 n m) 0 := ⟨fun f hf => (by cases hf), Nat.zero_le _⟩
/-- The beginning. -/
theorem St2.start {W0 W : World} {h q r : Nat} {n m : Nat} {sec : Option (Nat × Nat)} (hh : W.heap[h]? = some (.cells #[.slice none 0 0, .slice none 0 0, .slice none 0 0] 61)) (hh0 : W0.heap.size ≤ h) (hD : Duo (fun g => g = q) (fun g => g = r) W q r (lk0 n m)) (hq : h < q) (hr : h < r) (hB0 : Below W0.heap.size W0 W)
    (hs : ∀ q1 r1, sec = some (q1, r1) → (∃ n m, Duo (fun g => g = q1) (fun g => g = r1) W q1 r1 (lk0 n m)) ∧ h < q1 ∧ h < r1 ∧ q1 ≠ q ∧ q1 ≠ r ∧ r1 ≠ q ∧ r1 ≠ r) : St2 W0 h q r sec 0 W := by
  refine ⟨fun g => g = q, fun g => g = r, fun g => g = h, lk0 n m, _, _, _, [], [], ⟨hD, ⟨⟨hh, offF_nil W, offF_nil W, offF_nil W, (fun b hb => by cases hb), fun i l hl => by simp at hl⟩, rfl, (fun g hg => by simp [Value.ownBlock] at hg), (fun g hg => by simp [Value.ownBlock] at hg), (fun g hg => by simp [Value.ownBlock] at hg), (fun b hb => by cases hb), (fun l hl => by cases hl), fun g hg => by subst hg; exact (Array.getElem?_eq_some_iff.1 hh).1⟩, fun g hg => by subst hg; exact ⟨by omega, by omega⟩⟩, bd0 n m, fun g hg => by omega, hB0, by simp, by simp, by simp, fun q1 r1 e => ?_⟩
  obtain ⟨⟨n1, m1, hd⟩, h1, h2, h3, h4, h5, h6⟩ := hs q1 r1 e
  exact ⟨_, _, _, hd, bd0 n1 m1, fun g hg => by omega⟩
end Go.Proofs.Ytdmhajlhpieedaa
