import Derived.Test.YtfehgaioioejoaaDgW
/-! made of files. -/
namespace Go.Proofs.Ytfehgaioioejoaa
open Go.RowKit Go.Lib
set_option maxRecDepth 100000

/-- What counts of a file handed in. -/
def Fi.key (v : Fi) : Fi := ⟨v.nm, none, 0, v.bs, v.syn⟩
theorem good_key {l : List Fi} : GoodPre (l.map Fi.key) ↔ GoodPre l := by
  constructor
  · intro h
    refine ⟨fun v hv => h.ok v.key (List.mem_map.2 ⟨v, hv, rfl⟩), ?_⟩
    have := h.nd
    rw [List.map_map] at this
    exact this
  · intro h
    refine ⟨fun v hv => ?_, by rw [List.map_map]; exact h.nd⟩
    obtain ⟨u, hu, rfl⟩ := List.mem_map.1 hv
    exact h.ok u hu
theorem used_key (l : List Fi) : (l.map Fi.key).map Fi.fl = l.map Fi.fl := by rw [List.map_map]; rfl
theorem names_key (l : List Fi) : (l.map Fi.key).map (·.nm) = l.map (·.nm) := by rw [List.map_map]; rfl
theorem keys_eq {w w1 : World} {vs us : List Fi} {n : Nat} {v : Value} (h : OwI w w1 vs n v us) (hn : n = vs.length) : us.map Fi.key = vs.map Fi.key := by
  refine List.ext_getElem? (fun j => ?_)
  rw [List.getElem?_map, List.getElem?_map]
  by_cases hj : j < n
  · have h1 : us[j]? = some (us[j]'(by have := h.len; omega)) := List.getElem?_eq_getElem (by have := h.len; omega)
    have h2 : vs[j]? = some (vs[j]'(by omega)) := List.getElem?_eq_getElem (by omega)
    have h3 := h.each j _ _ h1 h2
    rw [h1, h2]
    simp only [Option.map_some, Option.some.injEq]
    show (⟨_, none, 0, _, _⟩ : Fi) = ⟨_, none, 0, _, _⟩
    rw [h3.nm, h3.bs, h3.syn]
  · rw [List.getElem?_eq_none (by have := h.len; omega), List.getElem?_eq_none (by omega)]
theorem key_at {us vs : List Fi} (h : us.map Fi.key = vs.map Fi.key) {m : Nat} {v : Fi} (hv : vs[m]? = some v) : ∃ u, us[m]? = some u ∧ u.key = v.key := by
  have h1 := congrArg (fun l => l[m]?) h
  simp only [List.getElem?_map, hv, Option.map_some] at h1
  obtain ⟨u, hu, e⟩ := Option.map_eq_some_iff.1 h1
  exact ⟨u, hu, e⟩
theorem fault_key (seen : List (List UInt8)) {u v : Fi} (h : u.key = v.key) : faultE seen u = faultE seen v := by
  have h1 : u.key.nm = v.key.nm := by rw [h]
  have h2 : u.key.bs = v.key.bs := by rw [h]
  have h3 : u.key.syn = v.key.syn := by rw [h]
  have h1 : u.nm = v.nm := h1
  have h2 : u.bs = v.bs := h2
  have h3 : u.syn = v.syn := h3
  unfold faultE
  rw [h1, h2, h3]
theorem memSumI {vs : List Fi} {v : Fi} (h : v ∈ vs) : v.bs.length ≤ sumI vs := by
  obtain ⟨l, t, rfl⟩ := List.append_of_mem h
  unfold sumI
  simp
  omega
set_option maxHeartbeats 1000000 in
theorem load_lim (L : Int) (hL : L < 0 ∨ 1099511627776 < L) (a : Option Addr) (n c : Nat) (w : World) : Calls Try.prog 56 #[.int .i64 L, .slice a n c] w fun e w' => e = .returned (.tuple #[.pointer none, .int .i64 12]) ∧ w' = w := by
  have HN : Hid (∀ w, Calls Try.prog 9 #[.int .i64 L] w fun e w' => e = .returned (.tuple #[.pointer none, .int .i64 12]) ∧ w' = w) := new_bad L hL
  clear hL
  go_enter Try.func56, Try.ntmps56
  go_wp2_with fail
  refine (HN.out _).mono ?_
  rintro e w1 ⟨rfl, hz⟩
  rw [hz]
  clear hz w1
  go_wp2_with fail
  go_ret2
  exact ⟨rfl, rfl⟩
set_option maxHeartbeats 1000000 in
theorem rload_lim (L : Int) (hL : L < 0 ∨ 1099511627776 < L) (a : Option Addr) (n c : Nat) (w : World) : Calls Try.prog 58 #[.int .i64 L, .slice a n c] w fun e w' => e = .returned (.tuple #[.pointer none, .int .i64 12]) ∧ w' = w := by
  have HN : Hid (∀ w, Calls Try.prog 59 #[.int .i64 L] w fun e w' => e = .returned (.tuple #[.pointer none, .int .i64 12]) ∧ w' = w) := rNew_bad L hL
  clear hL
  go_enter Try.func58, Try.ntmps58
  go_wp2_with fail
  refine (HN.out _).mono ?_
  rintro e w1 ⟨rfl, hz⟩
  rw [hz]
  clear hz w1
  go_wp2_with fail
  go_ret2
  exact ⟨rfl, rfl⟩
set_option maxHeartbeats 4000000 in
theorem made_no {w : World} (L : Int) {fa : Option Addr} {fn fc : Nat} (oa : Option Addr) (on oc : Nat) {vs : List Fi} (hv : Rw fiV 3 w fa fn fc vs) (h0 : 0 < fn) (hn : fn ≤ 1048576) (hby : ∀ v ∈ vs, Rw byU 1 w v.a v.bs.length v.cap v.bs) (hbl : ∀ v ∈ vs, v.bs.length ≤ 1048576) (E : Int)
    (hld : ∀ W W1, Below w.heap.size w W → ∀ a' c' us, OwI W W1 vs fn (.slice a' fn c') us → Calls Try.prog 56 #[.int .i64 L, .slice a' fn c'] W1 fun e w' => e = .returned (.tuple #[.pointer none, .int .i64 E]) ∧ Below W1.heap.size W1 w')
    (hrl : ∀ W, Below w.heap.size w W → Calls Try.prog 58 #[.int .i64 L, .slice fa fn fc] W fun e w' => e = .returned (.tuple #[.pointer none, .int .i64 E]) ∧ Below W.heap.size W w') :
    Calls Try.prog 41 #[.agg #[.int .i64 L, .slice fa fn fc, .slice oa on oc]] w fun e w' => MadeP w e w' := by
  have HNU : Hid (∀ x w, Calls Try.prog 10 #[.int .i64 x] w fun e w' => e = .returned (.int .i64 x) ∧ w' = w) := num_any
  obtain ⟨W0, hW0⟩ : ∃ W0, w.alloc (.cells #[.int .i64 L, .slice fa fn fc, .slice oa on oc] 25) = W0 := ⟨_, rfl⟩
  have hs0 : W0.heap.size = w.heap.size + 1 := by rw [← hW0, World.size_alloc]
  have hb0 : Below w.heap.size w W0 := by rw [← hW0]; exact (Below.refl _ _).alloc (Nat.le_refl _) _
  have hq0 : W0.heap[w.heap.size]? = some (.cells #[.int .i64 L, .slice fa fn fc, .slice oa on oc] 25) := by rw [← hW0]; exact (MapKept.heap_alloc w _).1
  obtain ⟨s0, s1, s2⟩ := box3 hq0
  have HQ : Hid (W0.heap[w.heap.size]? = some (.cells #[.int .i64 L, .slice fa fn fc, .slice oa on oc] 25) ∧ Below w.heap.size w W0 ∧ W0.heap.size = w.heap.size + 1) := ⟨hq0, hb0, hs0⟩
  have hfnz : (0 : Int) < (fn : Int) := by omega
  have HOW : Hid (∀ W, Below w.heap.size w W → Calls Try.prog 57 #[.slice fa fn fc] W fun e w' => ∃ (a' : Option Addr) (c' : Nat) (us : List Fi), e = .returned (.slice a' fn c') ∧ OwI W w' vs fn (.slice a' fn c') us) := fun W hb => ownI (hv.below hb) (by omega) (fun v hm => (hby v hm).below hb) (fun v hm => Nat.le_trans (hbl v hm) (by omega))
  have HLD : Hid (∀ W W1, Below w.heap.size w W → ∀ a' c' us, OwI W W1 vs fn (.slice a' fn c') us → Calls Try.prog 56 #[.int .i64 L, .slice a' fn c'] W1 fun e w' => e = .returned (.tuple #[.pointer none, .int .i64 E]) ∧ Below W1.heap.size W1 w') := hld
  have HRL : Hid (∀ W, Below w.heap.size w W → Calls Try.prog 58 #[.int .i64 L, .slice fa fn fc] W fun e w' => e = .returned (.tuple #[.pointer none, .int .i64 E]) ∧ Below W.heap.size W w') := hrl
  clear hv hby hbl hld hrl hb0 hq0 hs0 hn h0
  go_enter Try.func41, Try.ntmps41
  go_wp2_with fail
  have HKP : Hid (∀ W, Below W0.heap.size W0 W → (fun W => W.cell? ⟨w.heap.size, 0, none⟩ = some (.int .i64 L) ∧ W.cell? ⟨w.heap.size, 1, none⟩ = some (.slice fa fn fc)) W) := fun W hb => by
    have hq := box3 ((hb.block _ (by have := HQ.out.2.2; omega)).trans HQ.out.1)
    exact ⟨hq.1, hq.2.1⟩
  refine wp_region_held_drew (S := (fun W => W.cell? ⟨w.heap.size, 0, none⟩ = some (.int .i64 L) ∧ W.cell? ⟨w.heap.size, 1, none⟩ = some (.slice fa fn fc))) (by kernel_rfl) ?hS1 (fun hHeld => ?rest1)
  case hS1 => exact HKP.out _ ((Below.refl _ _).drew)
  refine takeD (i := 0) (d := some 18) (v := ?vT2) rfl rfl (by kernel_rfl) (by kernel_rfl) (by kernel_rfl) (fun _ _ _ h => h) (Or.inl ⟨by rfl, ?hyT2⟩) (by assumption) ?rstT2
  case hyT2 => (intro w hSw; (try dsimp only at hSw); go_simp; (try with_reducible rfl))
  try simp only [Act.put, List.setIfInBounds_toArray, List.set_cons_zero, List.set_cons_succ]
  refine takeD (i := 1) (d := some 19) (v := ?vT3) rfl rfl (by kernel_rfl) (by kernel_rfl) (by kernel_rfl) (fun _ _ _ h => h) (Or.inl ⟨by rfl, ?hyT3⟩) (by assumption) ?rstT3
  case hyT3 => (intro w hSw; (try dsimp only at hSw); go_simp; (try with_reducible rfl))
  try simp only [Act.put, List.setIfInBounds_toArray, List.set_cons_zero, List.set_cons_succ]
  refine takeD (i := 2) (d := some 20) (v := ?vT4) rfl rfl (by kernel_rfl) (by kernel_rfl) (by kernel_rfl) (fun _ _ _ h => h) (Or.inl ⟨by rfl, ?hyT4⟩) (by assumption) ?rstT4
  case hyT4 => (intro w hSw; (try dsimp only at hSw); go_simp; (try with_reducible rfl))
  try simp only [Act.put, List.setIfInBounds_toArray, List.set_cons_zero, List.set_cons_succ]
  refine takeD (i := 3) (d := some 21) (v := ?vT5) rfl rfl (by kernel_rfl) (by kernel_rfl) (by kernel_rfl) (fun _ _ _ h => h) (Or.inl ⟨by rfl, ?hyT5⟩) (by assumption) ?rstT5
  case hyT5 => (intro w hSw; (try dsimp only at hSw); go_simp; (try with_reducible rfl))
  try simp only [Act.put, List.setIfInBounds_toArray, List.set_cons_zero, List.set_cons_succ]
  refine wpAnyH_ready (rs := [4]) (by kernel_rfl) (by simp) ?_
  refine AllReadyH.cons rfl (fun K hK => ?_) AllReadyH.nil
  go_simp
  refine (HOW.out _ HQ.out.2.1.drew).mono ?_
  rintro e w1 ⟨a1, c1, us, rfl, how⟩
  have H1 : Hid (OwI W0.drew w1 vs fn (.slice a1 fn c1) us ∧ Below W0.heap.size W0 w1) := ⟨how, ((Below.refl _ _).drew).trans how.below⟩
  clear how
  clear hHeld
  refine hK.out _ _ ?hS6 (fun hHeld => ?rest6)
  case hS6 => exact HKP.out _ H1.out.2
  clear hK K
  try simp only [Act.put, List.setIfInBounds_toArray, List.set_cons_zero, List.set_cons_succ]
  refine wpAnyH_ready (rs := [5]) (by kernel_rfl) (by simp) ?_
  refine AllReadyH.cons rfl (fun K hK => ?_) AllReadyH.nil
  go_simp
  refine (HLD.out _ _ HQ.out.2.1.drew _ _ _ H1.out.1).mono ?_
  rintro e w2 ⟨rfl, hb2⟩
  have H2 : Hid (Below W0.heap.size W0 w2) := H1.out.2.trans (hb2.mono H1.out.2.size)
  clear hb2
  clear hHeld
  refine hK.out _ _ ?hS7 (fun hHeld => ?rest7)
  case hS7 => exact HKP.out _ H2.out
  clear hK K
  try simp only [Act.put, List.setIfInBounds_toArray, List.set_cons_zero, List.set_cons_succ]
  refine takeD (i := 6) (d := some 17) (v := ?vT8) rfl rfl (by kernel_rfl) (by kernel_rfl) (by kernel_rfl) (fun _ _ _ h => h) (Or.inl ⟨by rfl, ?hyT8⟩) (by assumption) ?rstT8
  case hyT8 => (intro w hSw; (try dsimp only at hSw); go_simp; (try with_reducible rfl))
  try simp only [Act.put, List.setIfInBounds_toArray, List.set_cons_zero, List.set_cons_succ]
  refine takeD (i := 7) (d := some 24) (v := ?vT9) rfl rfl (by kernel_rfl) (by kernel_rfl) (by kernel_rfl) (fun _ _ _ h => h) (Or.inl ⟨by rfl, ?hyT9⟩) (by assumption) ?rstT9
  case hyT9 => (intro w hSw; (try dsimp only at hSw); go_simp; (try with_reducible rfl))
  try simp only [Act.put, List.setIfInBounds_toArray, List.set_cons_zero, List.set_cons_succ]
  refine takeD (i := 8) (d := some 25) (v := ?vT10) rfl rfl (by kernel_rfl) (by kernel_rfl) (by kernel_rfl) (fun _ _ _ h => h) (Or.inl ⟨by rfl, ?hyT10⟩) (by assumption) ?rstT10
  case hyT10 => (intro w hSw; (try dsimp only at hSw); go_simp; (try with_reducible rfl))
  try simp only [Act.put, List.setIfInBounds_toArray, List.set_cons_zero, List.set_cons_succ]
  refine takeD (i := 9) (d := some 5) (v := ?vT11) rfl rfl (by kernel_rfl) (by kernel_rfl) (by kernel_rfl) (fun _ _ _ h => h) (Or.inl ⟨by rfl, ?hyT11⟩) (by assumption) ?rstT11
  case hyT11 => (intro w hSw; (try dsimp only at hSw); go_simp; (try with_reducible rfl))
  try simp only [Act.put, List.setIfInBounds_toArray, List.set_cons_zero, List.set_cons_succ]
  refine takeD (i := 10) (d := some 6) (v := ?vT12) rfl rfl (by kernel_rfl) (by kernel_rfl) (by kernel_rfl) (fun _ _ _ h => h) (Or.inl ⟨by rfl, ?hyT12⟩) (by assumption) ?rstT12
  case hyT12 => (intro w hSw; (try dsimp only at hSw); go_simp; (try with_reducible rfl))
  try simp only [Act.put, List.setIfInBounds_toArray, List.set_cons_zero, List.set_cons_succ]
  refine wpAnyH_done (by kernel_rfl) ?_ _
  obtain ⟨q0, q1, q2⟩ := box3 ((H2.out.block _ (by have := HQ.out.2.2; omega)).trans HQ.out.1)
  have hbw2 : Below w.heap.size w w2 := HQ.out.2.1.trans (H2.out.mono HQ.out.2.1.size)
  have HB2 : Hid (Below w.heap.size w w2) := hbw2
  clear hbw2
  go_wp2_with fail
  refine (HRL.out _ HB2.out).mono ?_
  rintro e w3 ⟨rfl, hb3⟩
  have H3 : Hid (Below w.heap.size w w3) := HB2.out.trans (hb3.mono HB2.out.size)
  clear hb3
  go_wp2_with fail
  refine (HNU.out _ _).mono ?_
  rintro e wz ⟨rfl, hz⟩
  rw [hz]
  clear hz wz
  go_wp2_with fail
  go_ret3
  exact .inl ⟨rfl, H3.out⟩
theorem made_pr {w w2 w3 : World} {p b ck l0 fn : Nat} {ys : List X} {vs : List Fi} {a3 : Option Addr} {c3 : Nat} {rs : List Rf} (hl0 : l0 ≤ 1099511627776) (hlen : vs.length = fn) (hn : fn ≤ 1048576) (hg : GoodPre vs) (hs : used (vs.map Fi.fl) ≤ l0) (hD : DiskAt w2 p b ⟨l0, vs.map Fi.fl, false, 0, 0⟩ ys ck) (hge : ∀ g, Blk p b ys g → w.heap.size ≤ g) (hb : Below w.heap.size w w2) (hR : RL w2 w3 w2.heap.size l0 vs fn a3 c3 rs) :
    PR w.heap.size w w3 p w2.heap.size ⟨l0, vs.map Fi.fl, false, 0, 0⟩ ⟨l0, rs.map Rf.fl, false, 0, 0⟩ ∧ Inv ⟨l0, vs.map Fi.fl, false, 0, 0⟩ 1048576 ∧ Inv ⟨l0, rs.map Rf.fl, false, 0, 0⟩ 1048576 := by
  have hsz := hb.size
  have hpm : (rs.map Rf.fl).Perm (vs.map Fi.fl) := by
    have := hR.perm
    rwa [← hlen, List.take_length] at this
  have hnm : ∀ f ∈ vs.map Fi.fl, f.nm.length ≤ 32 := fun f hf => by
    obtain ⟨v, hv, rfl⟩ := List.mem_map.1 hf
    exact nameOk_len (hg.ok v hv).1
  refine ⟨⟨⟨b, ys, ck, 0, a3, c3, rs, hD.below hR.below, hR.at_, fun g hq hr => ?_, hge, fun g hq => ?_⟩, hb.trans (hR.below.mono hsz), ⟨rfl, rfl, rfl, rfl, hpm.symm⟩, strF_of hR.str⟩, ⟨⟨hl0, hs, Nat.zero_le _, Nat.zero_le _⟩, ?_, hnm⟩, ⟨⟨hl0, ?_, Nat.zero_le _, Nat.zero_le _⟩, ?_, fun f hf => hnm f (hpm.mem_iff.1 hf)⟩⟩
  · have := hD.lt hq; have := hR.ge g hr; omega
  · have := hR.ge g hq; omega
  · show (vs.map Fi.fl).length ≤ _; rw [List.length_map]; omega
  · show used (rs.map Rf.fl) ≤ l0; rw [← used_perm hpm]; exact hs
  · show (rs.map Rf.fl).length ≤ _; rw [hpm.length_eq, List.length_map]; omega
set_option maxHeartbeats 4000000 in
theorem made_yes {w : World} (l0 : Nat) (hl0 : l0 ≤ 1099511627776) {fa : Option Addr} {fn fc : Nat} (oa : Option Addr) (on oc : Nat) {vs : List Fi} (hv : Rw fiV 3 w fa fn fc vs) (h0 : 0 < fn) (hn : fn ≤ 1048576) (hby : ∀ v ∈ vs, Rw byU 1 w v.a v.bs.length v.cap v.bs) (hnm : ∀ v ∈ vs, v.nm.length ≤ 9223372036854775807) (hsum : sumI vs ≤ 1048576) (hg : GoodPre vs) (hs : used (vs.map Fi.fl) ≤ l0) :
    Calls Try.prog 41 #[.agg #[.int .i64 (l0 : Int), .slice fa fn fc, .slice oa on oc]] w fun e w' => MadeP w e w' := by
  have HNU : Hid (∀ x w, Calls Try.prog 10 #[.int .i64 x] w fun e w' => e = .returned (.int .i64 x) ∧ w' = w) := num_any
  obtain ⟨W0, hW0⟩ : ∃ W0, w.alloc (.cells #[.int .i64 (l0 : Int), .slice fa fn fc, .slice oa on oc] 25) = W0 := ⟨_, rfl⟩
  have hs0 : W0.heap.size = w.heap.size + 1 := by rw [← hW0, World.size_alloc]
  have hb0 : Below w.heap.size w W0 := by rw [← hW0]; exact (Below.refl _ _).alloc (Nat.le_refl _) _
  have hq0 : W0.heap[w.heap.size]? = some (.cells #[.int .i64 (l0 : Int), .slice fa fn fc, .slice oa on oc] 25) := by rw [← hW0]; exact (MapKept.heap_alloc w _).1
  obtain ⟨s0, s1, s2⟩ := box3 hq0
  have HQ : Hid (W0.heap[w.heap.size]? = some (.cells #[.int .i64 (l0 : Int), .slice fa fn fc, .slice oa on oc] 25) ∧ Below w.heap.size w W0 ∧ W0.heap.size = w.heap.size + 1) := ⟨hq0, hb0, hs0⟩
  have hfnz : (0 : Int) < (fn : Int) := by omega
  have hlen := hv.len
  have hbl : ∀ v ∈ vs, v.bs.length ≤ 1048576 := fun v hm => by have := memSumI hm; omega
  have HOW : Hid (∀ W, Below w.heap.size w W → Calls Try.prog 57 #[.slice fa fn fc] W fun e w' => ∃ (a' : Option Addr) (c' : Nat) (us : List Fi), e = .returned (.slice a' fn c') ∧ OwI W w' vs fn (.slice a' fn c') us) := fun W hb => ownI (hv.below hb) (by omega) (fun v hm => (hby v hm).below hb) (fun v hm => Nat.le_trans (hbl v hm) (by omega))
  have HLD : Hid (∀ W W1, Below w.heap.size w W → ∀ a' c' us, OwI W W1 vs fn (.slice a' fn c') us → Calls Try.prog 56 #[.int .i64 (l0 : Int), .slice a' fn c'] W1 fun e w' => ∃ p b xs ck, e = .returned (.tuple #[.pointer (some ⟨p, 0, none⟩), .int .i64 0]) ∧ DiskAt w' p b ⟨l0, vs.map Fi.fl, false, 0, 0⟩ xs ck ∧ (∀ g, Blk p b xs g → W1.heap.size ≤ g) ∧ Below W1.heap.size W1 w') := fun W W1 hb a' c' us ho => by
    have hk := keys_eq ho hlen.symm
    have hfl : us.map Fi.fl = vs.map Fi.fl := by rw [← used_key us, hk, used_key]
    have := load_take (ho.row.rw_ layFi) (by omega) (fun u hu => by
      obtain ⟨j, hj⟩ := List.getElem?_of_mem hu
      have hjl : j < vs.length := by have := (List.getElem?_eq_some_iff.1 hj).1; have := ho.len; omega
      exact (ho.each j u _ hj (List.getElem?_eq_getElem hjl)).own.rw_ layU) hl0 (good_key.1 (by rw [hk]; exact good_key.2 hg)) (by rw [hfl]; exact hs)
    rw [hfl] at this
    exact this
  have HRL : Hid (∀ W, Below w.heap.size w W → Calls Try.prog 58 #[.int .i64 (l0 : Int), .slice fa fn fc] W fun e w' => ∃ a' c' xs, e = .returned (.tuple #[.pointer (some ⟨W.heap.size, 0, none⟩), .int .i64 0]) ∧ RL W w' W.heap.size l0 vs fn a' c' xs) := fun W hb => rLoad_ok (hv.below hb) (by omega) (fun v hm => (hby v hm).below hb) hnm (by omega) hl0 hg hs
  have HPR : Hid (∀ w2 w3 p b ck ys a3 c3 rs, DiskAt w2 p b ⟨l0, vs.map Fi.fl, false, 0, 0⟩ ys ck → (∀ g, Blk p b ys g → w.heap.size ≤ g) → Below w.heap.size w w2 → RL w2 w3 w2.heap.size l0 vs fn a3 c3 rs → PR w.heap.size w w3 p w2.heap.size ⟨l0, vs.map Fi.fl, false, 0, 0⟩ ⟨l0, rs.map Rf.fl, false, 0, 0⟩ ∧ Inv ⟨l0, vs.map Fi.fl, false, 0, 0⟩ 1048576 ∧ Inv ⟨l0, rs.map Rf.fl, false, 0, 0⟩ 1048576) := fun w2 w3 p b ck ys a3 c3 rs h1 h2 h3 h4 => made_pr hl0 hlen hn hg hs h1 h2 h3 h4
  clear hv hby hbl hnm hsum hg hs hb0 hq0 hs0 hn h0 hlen hl0
  go_enter Try.func41, Try.ntmps41
  go_wp2_with fail
  have HKP : Hid (∀ W, Below W0.heap.size W0 W → (fun W => W.cell? ⟨w.heap.size, 0, none⟩ = some (.int .i64 (l0 : Int)) ∧ W.cell? ⟨w.heap.size, 1, none⟩ = some (.slice fa fn fc)) W) := fun W hb => by
    have hq := box3 ((hb.block _ (by have := HQ.out.2.2; omega)).trans HQ.out.1)
    exact ⟨hq.1, hq.2.1⟩
  refine wp_region_held_drew (S := (fun W => W.cell? ⟨w.heap.size, 0, none⟩ = some (.int .i64 (l0 : Int)) ∧ W.cell? ⟨w.heap.size, 1, none⟩ = some (.slice fa fn fc))) (by kernel_rfl) ?hS13 (fun hHeld => ?rest13)
  case hS13 => exact HKP.out _ ((Below.refl _ _).drew)
  refine takeD (i := 0) (d := some 18) (v := ?vT14) rfl rfl (by kernel_rfl) (by kernel_rfl) (by kernel_rfl) (fun _ _ _ h => h) (Or.inl ⟨by rfl, ?hyT14⟩) (by assumption) ?rstT14
  case hyT14 => (intro w hSw; (try dsimp only at hSw); go_simp; (try with_reducible rfl))
  try simp only [Act.put, List.setIfInBounds_toArray, List.set_cons_zero, List.set_cons_succ]
  refine takeD (i := 1) (d := some 19) (v := ?vT15) rfl rfl (by kernel_rfl) (by kernel_rfl) (by kernel_rfl) (fun _ _ _ h => h) (Or.inl ⟨by rfl, ?hyT15⟩) (by assumption) ?rstT15
  case hyT15 => (intro w hSw; (try dsimp only at hSw); go_simp; (try with_reducible rfl))
  try simp only [Act.put, List.setIfInBounds_toArray, List.set_cons_zero, List.set_cons_succ]
  refine takeD (i := 2) (d := some 20) (v := ?vT16) rfl rfl (by kernel_rfl) (by kernel_rfl) (by kernel_rfl) (fun _ _ _ h => h) (Or.inl ⟨by rfl, ?hyT16⟩) (by assumption) ?rstT16
  case hyT16 => (intro w hSw; (try dsimp only at hSw); go_simp; (try with_reducible rfl))
  try simp only [Act.put, List.setIfInBounds_toArray, List.set_cons_zero, List.set_cons_succ]
  refine takeD (i := 3) (d := some 21) (v := ?vT17) rfl rfl (by kernel_rfl) (by kernel_rfl) (by kernel_rfl) (fun _ _ _ h => h) (Or.inl ⟨by rfl, ?hyT17⟩) (by assumption) ?rstT17
  case hyT17 => (intro w hSw; (try dsimp only at hSw); go_simp; (try with_reducible rfl))
  try simp only [Act.put, List.setIfInBounds_toArray, List.set_cons_zero, List.set_cons_succ]
  refine wpAnyH_ready (rs := [4]) (by kernel_rfl) (by simp) ?_
  refine AllReadyH.cons rfl (fun K hK => ?_) AllReadyH.nil
  go_simp
  refine (HOW.out _ HQ.out.2.1.drew).mono ?_
  rintro e w1 ⟨a1, c1, us, rfl, how⟩
  have H1 : Hid (OwI W0.drew w1 vs fn (.slice a1 fn c1) us ∧ Below W0.heap.size W0 w1) := ⟨how, ((Below.refl _ _).drew).trans how.below⟩
  clear how
  clear hHeld
  refine hK.out _ _ ?hS18 (fun hHeld => ?rest18)
  case hS18 => exact HKP.out _ H1.out.2
  clear hK K
  try simp only [Act.put, List.setIfInBounds_toArray, List.set_cons_zero, List.set_cons_succ]
  refine wpAnyH_ready (rs := [5]) (by kernel_rfl) (by simp) ?_
  refine AllReadyH.cons rfl (fun K hK => ?_) AllReadyH.nil
  go_simp
  refine (HLD.out _ _ HQ.out.2.1.drew _ _ _ H1.out.1).mono ?_
  rintro e w2 ⟨p, b, ys, ck, rfl, hD, hge, hb2⟩
  have H2' : Hid (DiskAt w2 p b ⟨l0, vs.map Fi.fl, false, 0, 0⟩ ys ck ∧ (∀ g, Blk p b ys g → W0.heap.size ≤ g)) := ⟨hD, fun g hg => Nat.le_trans H1.out.2.size (hge g hg)⟩
  have H2 : Hid (Below W0.heap.size W0 w2) := H1.out.2.trans (hb2.mono H1.out.2.size)
  clear hb2 hD hge
  clear hHeld
  refine hK.out _ _ ?hS19 (fun hHeld => ?rest19)
  case hS19 => exact HKP.out _ H2.out
  clear hK K
  try simp only [Act.put, List.setIfInBounds_toArray, List.set_cons_zero, List.set_cons_succ]
  refine takeD (i := 6) (d := some 17) (v := ?vT20) rfl rfl (by kernel_rfl) (by kernel_rfl) (by kernel_rfl) (fun _ _ _ h => h) (Or.inl ⟨by rfl, ?hyT20⟩) (by assumption) ?rstT20
  case hyT20 => (intro w hSw; (try dsimp only at hSw); go_simp; (try with_reducible rfl))
  try simp only [Act.put, List.setIfInBounds_toArray, List.set_cons_zero, List.set_cons_succ]
  refine takeD (i := 7) (d := some 24) (v := ?vT21) rfl rfl (by kernel_rfl) (by kernel_rfl) (by kernel_rfl) (fun _ _ _ h => h) (Or.inl ⟨by rfl, ?hyT21⟩) (by assumption) ?rstT21
  case hyT21 => (intro w hSw; (try dsimp only at hSw); go_simp; (try with_reducible rfl))
  try simp only [Act.put, List.setIfInBounds_toArray, List.set_cons_zero, List.set_cons_succ]
  refine takeD (i := 8) (d := some 25) (v := ?vT22) rfl rfl (by kernel_rfl) (by kernel_rfl) (by kernel_rfl) (fun _ _ _ h => h) (Or.inl ⟨by rfl, ?hyT22⟩) (by assumption) ?rstT22
  case hyT22 => (intro w hSw; (try dsimp only at hSw); go_simp; (try with_reducible rfl))
  try simp only [Act.put, List.setIfInBounds_toArray, List.set_cons_zero, List.set_cons_succ]
  refine takeD (i := 9) (d := some 5) (v := ?vT23) rfl rfl (by kernel_rfl) (by kernel_rfl) (by kernel_rfl) (fun _ _ _ h => h) (Or.inl ⟨by rfl, ?hyT23⟩) (by assumption) ?rstT23
  case hyT23 => (intro w hSw; (try dsimp only at hSw); go_simp; (try with_reducible rfl))
  try simp only [Act.put, List.setIfInBounds_toArray, List.set_cons_zero, List.set_cons_succ]
  refine takeD (i := 10) (d := some 6) (v := ?vT24) rfl rfl (by kernel_rfl) (by kernel_rfl) (by kernel_rfl) (fun _ _ _ h => h) (Or.inl ⟨by rfl, ?hyT24⟩) (by assumption) ?rstT24
  case hyT24 => (intro w hSw; (try dsimp only at hSw); go_simp; (try with_reducible rfl))
  try simp only [Act.put, List.setIfInBounds_toArray, List.set_cons_zero, List.set_cons_succ]
  refine wpAnyH_done (by kernel_rfl) ?_ _
  obtain ⟨q0, q1, q2⟩ := box3 ((H2.out.block _ (by have := HQ.out.2.2; omega)).trans HQ.out.1)
  have hbw2 : Below w.heap.size w w2 := HQ.out.2.1.trans (H2.out.mono HQ.out.2.1.size)
  have HB2 : Hid (Below w.heap.size w w2) := hbw2
  clear hbw2
  go_wp2_with fail
  refine (HRL.out _ HB2.out).mono ?_
  rintro e w3 ⟨a3, c3, rs, rfl, hRL⟩
  obtain ⟨r, hr⟩ : ∃ r, w2.heap.size = r := ⟨_, rfl⟩
  have H3 : Hid (PR w.heap.size w w3 p w2.heap.size ⟨l0, vs.map Fi.fl, false, 0, 0⟩ ⟨l0, rs.map Rf.fl, false, 0, 0⟩ ∧ Inv ⟨l0, vs.map Fi.fl, false, 0, 0⟩ 1048576 ∧ Inv ⟨l0, rs.map Rf.fl, false, 0, 0⟩ 1048576) := HPR.out _ _ _ _ _ _ _ _ _ H2'.out.1 (fun g hg => by have := H2'.out.2 g hg; have := HQ.out.2.2; omega) HB2.out hRL
  rw [hr] at H3 ⊢
  clear hRL hr
  go_wp2_with fail
  refine (HNU.out _ _).mono ?_
  rintro e wz ⟨rfl, hz⟩
  rw [hz]
  clear hz wz
  go_wp2_with fail
  go_ret3
  exact .inr ⟨p, r, _, _, rfl, H3.out.1, H3.out.2.1, H3.out.2.2⟩
/-- made, in all cases. -/
theorem made_all {w : World} (L : Int) {fa : Option Addr} {fn fc : Nat} (oa : Option Addr) (on oc : Nat) {vs : List Fi} (hv : Rw fiV 3 w fa fn fc vs) (hn : fn ≤ 1048576) (hby : ∀ v ∈ vs, Rw byU 1 w v.a v.bs.length v.cap v.bs) (hnm : ∀ v ∈ vs, v.nm.length ≤ 9223372036854775807) (hsum : sumI vs ≤ 1048576) :
    Calls Try.prog 41 #[.agg #[.int .i64 L, .slice fa fn fc, .slice oa on oc]] w fun e w' => MadeP w e w' := by
  have hbl : ∀ v ∈ vs, v.bs.length ≤ 1048576 := fun v hm => by have := memSumI hm; omega
  have hlen := hv.len
  by_cases h0 : 0 < fn
  · by_cases hL : L < 0 ∨ 1099511627776 < L
    · exact made_no L oa on oc hv h0 hn hby hbl 12 (fun W W1 _ a' c' us _ => (load_lim L hL a' fn c' W1).mono (fun e w' ⟨h1, h2⟩ => ⟨h1, h2 ▸ Below.refl _ _⟩)) (fun W _ => (rload_lim L hL fa fn fc W).mono (fun e w' ⟨h1, h2⟩ => ⟨h1, h2 ▸ Below.refl _ _⟩))
    · obtain ⟨l0, rfl⟩ : ∃ m : Nat, L = (m : Int) := ⟨L.toNat, by omega⟩
      have hl0 : l0 ≤ 1099511627776 := by omega
      have hall : ∀ W W1 a' c' us, OwI W W1 vs fn (.slice a' fn c') us → Rw fiV 3 W1 a' fn c' us ∧ us.map Fi.key = vs.map Fi.key := fun W W1 a' c' us ho => ⟨ho.row.rw_ layFi, keys_eq ho hlen.symm⟩
      rcases good_or vs with hg | ⟨m, u, hu, hg, hf⟩
      · by_cases hs : used (vs.map Fi.fl) ≤ l0
        · exact made_yes l0 hl0 oa on oc hv h0 hn hby hnm hsum hg hs
        · refine made_no _ oa on oc hv h0 hn hby hbl 12 (fun W W1 _ a' c' us ho => ?_) (fun W hb => rLoad_big (hv.below hb) (by omega) (fun v hm => (hby v hm).below hb) hnm (by omega) hl0 hg hs)
          obtain ⟨h1, hk⟩ := hall W W1 a' c' us ho
          have hfl : us.map Fi.fl = vs.map Fi.fl := by rw [← used_key us, hk, used_key]
          refine load_big h1 (by omega) (fun u hu => ?_) hl0 (good_key.1 (by rw [hk]; exact good_key.2 hg)) (by rw [hfl]; exact hs)
          obtain ⟨j, hj⟩ := List.getElem?_of_mem hu
          have hjl : j < vs.length := by have := (List.getElem?_eq_some_iff.1 hj).1; have := ho.len; omega
          rw [(ho.each j u _ hj (List.getElem?_eq_getElem hjl)).bs]
          exact Nat.le_trans (hbl _ (List.getElem_mem hjl)) (by omega)
      · refine made_no _ oa on oc hv h0 hn hby hbl (faultE ((vs.take m).map (·.nm)) u) (fun W W1 _ a' c' us ho => ?_) (fun W hb => ?_)
        · obtain ⟨h1, hk⟩ := hall W W1 a' c' us ho
          obtain ⟨u', hu', hku⟩ := key_at hk hu
          have hkt : (us.take m).map Fi.key = (vs.take m).map Fi.key := by rw [List.map_take, List.map_take, hk]
          have hnt : (us.take m).map (·.nm) = (vs.take m).map (·.nm) := by rw [← names_key (us.take m), hkt, names_key]
          have hfe : faultE ((us.take m).map (·.nm)) u' = faultE ((vs.take m).map (·.nm)) u := by rw [hnt]; exact fault_key _ hku
          rw [← hfe]
          have hul : u'.nm.length ≤ 9223372036854775807 := by
            have e : u'.key.nm = u.key.nm := by rw [hku]
            have e : u'.nm = u.nm := e
            rw [e]
            exact hnm u (List.mem_of_getElem? hu)
          exact load_fault h1 (by omega) hl0 hu' (good_key.1 (by rw [hkt]; exact good_key.2 hg)) (by rw [hfe]; exact hf) hul
        · by_cases hok : nameOk u.nm = true
          · by_cases hin : u.nm ∈ (vs.take m).map (·.nm)
            · have e : faultE ((vs.take m).map (·.nm)) u = 61 := by unfold faultE; rw [if_pos hok, if_pos hin]
              rw [e]
              exact rLoad_f2 (hv.below hb) (by omega) (fun v hm => (hby v hm).below hb) hnm (by omega) hl0 hu hg hf hok hin
            · have hbad : u.syn < 0 ∨ (u.bs.length : Int) < u.syn := by
                by_cases hq : u.syn < 0 ∨ (u.bs.length : Int) < u.syn
                · exact hq
                · exact absurd (by unfold faultE; rw [if_pos hok, if_neg hin, if_neg hq]) hf
              have e : faultE ((vs.take m).map (·.nm)) u = 12 := by unfold faultE; rw [if_pos hok, if_neg hin, if_pos hbad]
              rw [e]
              exact rLoad_f3 (hv.below hb) (by omega) (fun v hm => (hby v hm).below hb) hnm (by omega) hl0 hu hg hf hok hin hbad
          · have e : faultE ((vs.take m).map (·.nm)) u = 113 := by unfold faultE; rw [if_neg hok]
            rw [e]
            exact rLoad_f1 (hv.below hb) (by omega) (fun v hm => (hby v hm).below hb) hnm (by omega) hl0 hu hg hf (by simpa using hok)
  · obtain rfl : fn = 0 := by omega
    exact made_new L fa fc oa on oc
end Go.Proofs.Ytfehgaioioejoaa
