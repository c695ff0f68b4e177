import Derived.Test.YtfehgaioioejoaaDgRT
/-! The reference's Load. -/
namespace Go.Proofs.Ytfehgaioioejoaa
open Go.RowKit Go.Lib
set_option maxRecDepth 100000

def sumI (vs : List Fi) : Nat := (vs.map (fun v => v.bs.length)).sum
theorem sumI_used (vs : List Fi) : used (vs.map Fi.fl) = sumI vs := by
  unfold used sumI
  rw [List.map_map]
  rfl
theorem sumI_snoc {vs : List Fi} {k : Nat} {v : Fi} (h : vs[k]? = some v) : sumI (vs.take (k + 1)) = sumI (vs.take k) + v.bs.length := by
  unfold sumI
  rw [List.take_add_one, h]
  simp
theorem sumI_le (vs : List Fi) (i : Nat) : sumI (vs.take i) ≤ sumI vs := by
  have : sumI vs = sumI (vs.take i) + sumI (vs.drop i) := by
    unfold sumI
    rw [← List.sum_append, ← List.map_append, List.take_append_drop]
  omega
theorem nodup_fresh {vs : List Fi} (h : (vs.map (·.nm)).Nodup) {k : Nat} {v : Fi} (hv : vs[k]? = some v) : v.nm ∉ (vs.take k).map (·.nm) := by
  have hk := (List.getElem?_eq_some_iff.1 hv).1
  have e : vs = vs.take k ++ v :: vs.drop (k + 1) := by
    obtain ⟨_, rfl⟩ := List.getElem?_eq_some_iff.1 hv
    rw [← List.drop_eq_getElem_cons hk, List.take_append_drop]
  rw [e, List.map_append, List.map_cons, List.nodup_append] at h
  intro hm
  exact h.2.2 _ hm _ (List.mem_cons_self ..) rfl
/-- Where the reference's Load stands. -/
structure RL (w wr : World) (r lim : Nat) (vs : List Fi) (k : Nat) (a' : Option Addr) (c' : Nat) (xs : List Rf) : Prop where
  at_ : RefAt wr r ⟨lim, xs.map Rf.fl, false, 0, 0⟩ 0 a' c' xs
  str : Str xs
  perm : (xs.map Rf.fl).Perm ((vs.take k).map Fi.fl)
  ge : ∀ g, RB r a' xs g → w.heap.size ≤ g
  below : Below w.heap.size w wr
theorem RL.grow {w wr W' : World} {r lim : Nat} {vs : List Fi} {k : Nat} {a' : Option Addr} {c' : Nat} {xs : List Rf} (h : RL w wr r lim vs k a' c' xs) (hb : Below wr.heap.size wr W') : RL w W' r lim vs k a' c' xs := ⟨h.at_.below hb, h.str, h.perm, h.ge, h.below.trans (hb.mono h.below.size)⟩
theorem RL.len {w wr : World} {r lim : Nat} {vs : List Fi} {k : Nat} {a' : Option Addr} {c' : Nat} {xs : List Rf} (h : RL w wr r lim vs k a' c' xs) (hv : vs.length ≤ 1000000000) : xs.length ≤ 1000000000 := by
  have := h.perm.length_eq
  simp only [List.length_map, List.length_take] at this
  omega
theorem RL.names {w wr : World} {r lim : Nat} {vs : List Fi} {k : Nat} {a' : Option Addr} {c' : Nat} {xs : List Rf} (h : RL w wr r lim vs k a' c' xs) (nm : List UInt8) : (∃ x ∈ xs, x.nm = nm) ↔ nm ∈ (vs.take k).map (·.nm) := by
  constructor
  · rintro ⟨x, hx, rfl⟩
    have h1 : x.fl ∈ (vs.take k).map Fi.fl := h.perm.mem_iff.1 (List.mem_map.2 ⟨x, hx, rfl⟩)
    obtain ⟨v, hv, e⟩ := List.mem_map.1 h1
    exact List.mem_map.2 ⟨v, hv, congrArg Fl.nm e⟩
  · intro hm
    obtain ⟨v, hv, rfl⟩ := List.mem_map.1 hm
    have h1 : v.fl ∈ xs.map Rf.fl := h.perm.mem_iff.2 (List.mem_map.2 ⟨v, hv, rfl⟩)
    obtain ⟨x, hx, e⟩ := List.mem_map.1 h1
    exact ⟨x, hx, congrArg Fl.nm e⟩
/-- One file more. -/
theorem RL.next {w W W' : World} {r lim : Nat} {vs : List Fi} {k : Nat} {a' : Option Addr} {c' : Nat} {xs : List Rf} (h : RL w W r lim vs k a' c' xs) {v : Fi} (hv : vs[k]? = some v) (hn : v.nm ∉ (vs.take k).map (·.nm)) {f : Rf} (f1 : f.nm = v.nm) (f2 : f.bs = v.bs) (f3 : f.syn = v.syn.toNat) (hge : ∀ q, f.a = some q → w.heap.size ≤ q.block) (hS : StoreP W W' r ⟨lim, xs.map Rf.fl, false, 0, 0⟩ 0 (storeL f false xs)) : ∃ a2 c2, RL w W' r lim vs (k + 1) a2 c2 (storeL f false xs) := by
  obtain ⟨a2, c2, h1, h2, h3⟩ := hS
  have hno : ∀ x ∈ xs, x.nm ≠ f.nm := fun x hx e => hn ((h.names v.nm).1 ⟨x, hx, e.trans f1⟩)
  obtain ⟨p1, p2⟩ := storeL_miss h.str hno
  have hsz := h.below.size
  have hrb : w.heap.size ≤ r := h.ge r (.inl rfl)
  refine ⟨a2, c2, h1, p2, ?_, fun g hg => ?_, h.below.trans (h2.below (fun g e => by omega) hsz)⟩
  · rw [List.take_add_one, hv]
    have e : (xs ++ [f]).map Rf.fl = xs.map Rf.fl ++ [v.fl] := by
      rw [List.map_append]
      congr 1
      show [(⟨f.nm, f.bs, f.syn⟩ : Fl)] = [⟨v.nm, v.bs, v.syn.toNat⟩]
      rw [f1, f2, f3]
    refine (p1.map Rf.fl).trans ?_
    rw [e]
    simp only [Option.toList_some, List.map_append, List.map_cons, List.map_nil]
    exact h.perm.append_right _
  · rcases hg with rfl | ⟨q, e, rfl⟩ | ⟨x, hx, q, e, rfl⟩
    · exact hrb
    · have := h3 q e; omega
    · rcases mem_storeL hx with hx | ⟨_, rfl⟩
      · exact h.ge _ (.inr (.inr ⟨x, hx, q, e, rfl⟩))
      · exact hge q e
/-- One store of Load. -/
theorem load_store {w W : World} {lim : Nat} {vs : List Fi} {k : Nat} {a' : Option Addr} {c' : Nat} {xs : List Rf} (h : RL w W w.heap.size lim vs k a' c' xs) (hvl : vs.length ≤ 1000000000) {v : Fi} (hv : vs[k]? = some v) (hn : v.nm ∉ (vs.take k).map (·.nm)) (h0 : 0 ≤ v.syn) (h1 : v.syn ≤ (v.bs.length : Int)) {a7 : Option Addr} {c7 B : Nat} (ho : OwnF byU 1 5 W B (.slice a7 v.bs.length c7) v.bs) (hB : w.heap.size ≤ B) :
    Calls Try.prog 91 #[.pointer (some ⟨w.heap.size, 0, none⟩), .agg #[.string ⟨v.nm.toArray⟩, .bool true, .slice a7 v.bs.length c7, .int .i64 v.syn]] W fun e w' => e = .returned (.tuple #[]) ∧ ∃ xs2 a2 c2, RL w w' w.heap.size lim vs (k + 1) a2 c2 xs2 ∧ Chg (fun g => g = w.heap.size) W w' := by
  have hge : ∀ q, a7 = some q → B ≤ q.block ∧ q.block < W.heap.size := fun q e => ⟨ho.ge (by rw [e]; rfl), ho.lt (by rw [e]; rfl)⟩
  have hB2 : ∀ q, a7 = some q → q.block ≠ w.heap.size := fun q e h2 => by
    obtain ⟨cur, hc⟩ := own_blockU ho (g := q.block) (by rw [e]; rfl)
    rw [h2, h.at_.box] at hc
    simp at hc
  have hs := rStore h.at_ (by have := h.len hvl; omega) ⟨v.nm, a7, c7, v.bs, v.syn.toNat⟩ true (fun _ => ⟨ho.rw_ layU, by show v.syn.toNat ≤ v.bs.length; omega, fun q e => ⟨hB2 q e, (hge q e).2⟩⟩)
  simp only [Int.toNat_of_nonneg h0] at hs
  refine hs.mono ?_
  rintro e w' ⟨rfl, hS⟩
  have hC : Chg (fun g => g = w.heap.size) W w' := by obtain ⟨_, _, _, h2, _⟩ := hS; exact h2
  obtain ⟨a2, c2, h2⟩ := h.next hv hn (f := ⟨v.nm, a7, c7, v.bs, v.syn.toNat⟩) rfl rfl rfl (fun q e => Nat.le_trans hB (hge q e).1) hS
  exact ⟨rfl, _, a2, c2, h2, hC⟩
set_option maxHeartbeats 4000000 in
theorem rLoad_ok {w : World} {a : Option Addr} {n c : Nat} {vs : List Fi} (h : Rw fiV 3 w a n c vs) (hn : n ≤ 1000000000) (hby : ∀ v ∈ vs, Rw byU 1 w v.a v.bs.length v.cap v.bs) (hnm : ∀ v ∈ vs, v.nm.length ≤ 9223372036854775807) (hsum : sumI vs ≤ 1099511627776) {lim : Nat} (hl : lim ≤ 1099511627776) (hg : GoodPre vs) (hs : used (vs.map Fi.fl) ≤ lim) :
    Calls Try.prog 58 #[.int .i64 (lim : Int), .slice a n c] w fun e w' => ∃ a' c' xs, e = .returned (.tuple #[.pointer (some ⟨w.heap.size, 0, none⟩), .int .i64 0]) ∧ RL w w' w.heap.size lim vs n a' c' xs := by
  have HR : Hid (Rw fiV 3 w a n c vs ∧ n ≤ 1000000000 ∧ (∀ v ∈ vs, Rw byU 1 w v.a v.bs.length v.cap v.bs) ∧ (∀ v ∈ vs, v.nm.length ≤ 9223372036854775807) ∧ sumI vs ≤ 1099511627776) := ⟨h, hn, hby, hnm, hsum⟩
  have HL : Hid (lim ≤ 1099511627776) := hl
  have hnc : (n : Int) ≤ 1000000000 := by omega
  have hlc : (lim : Int) ≤ 1099511627776 := by omega
  obtain ⟨m, hm⟩ : ∃ m, n = m := ⟨_, rfl⟩
  have hmn : m ≤ n := by omega
  have hnm2 : n ≤ m := by omega
  have HGD : Hid (∀ k v, k < m → vs[k]? = some v → nameOk v.nm = true ∧ 0 ≤ v.syn ∧ v.syn ≤ (v.bs.length : Int)) := fun k v hk hv => hg.ok v (List.mem_of_getElem? hv)
  have HNI : Hid (∀ k v, k < m → vs[k]? = some v → v.nm ∉ (vs.take k).map (·.nm)) := fun k v hk hv => nodup_fresh hg.nd hv
  have HTOT : Hid (sumI vs ≤ lim) := by rw [← sumI_used]; exact hs
  clear hg hs hm
  clear h hn hby hnm hsum hl
  go_enter Try.func58, Try.ntmps58
  go_wp2_with fail
  refine (rNew lim HL.out w).mono ?_
  rintro e w1 ⟨rfl, hD, hb1⟩
  have H1 : Hid (RL w w1 w.heap.size lim vs 0 none 0 []) := ⟨hD, List.Pairwise.nil, by simp, fun g hg => by (rcases hg with h | ⟨q, h, _⟩ | ⟨x, h, _⟩ <;> first | omega | cases h), hb1⟩
  clear hD hb1
  go_wp2_with fail
  go_loopw [8, 9] (fun vr vi wr => ∃ k : Nat, k ≤ m ∧ vi = .int .i64 (k : Int) ∧ vr = .int .i64 ((lim : Int) - (sumI (vs.take k) : Int)) ∧ ∃ (a' : Option Addr) (c' : Nat) (xs : List Rf), Hid (RL w wr w.heap.size lim vs k a' c' xs)) (fun _ vi _ => n - (RowKit.intOf vi).toNat)
  case atStart => exact ⟨0, Nat.zero_le _, rfl, by simp [sumI], none, 0, [], H1.out⟩
  case round =>
    obtain ⟨wo, hwo⟩ : ∃ wo, wo = wr := ⟨_, rfl⟩
    subst hwo
    obtain ⟨k, hk, rfl, rfl, a', c', xs, hS⟩ := hrel
    by_cases hkm : k < m
    · have hlt : k < n := by omega
      have hlt2 : (k : Int) < (n : Int) := by omega
      obtain ⟨g, off, v, ha, hg, hv, hcell⟩ := (HR.out.1.below hS.out.below).at k hlt
      subst ha
      have o0 := hcell 0 _ rfl
      have o1 := hcell 1 _ rfl
      have o2 := hcell 2 _ rfl
      rw [Nat.add_zero] at o0
      obtain ⟨V, V2, hV, hV2, hVh, hh, hb⟩ := fbox wo ⟨v.nm.toArray⟩ v.a v.bs.length v.cap v.syn
      obtain ⟨z0, z1, z2⟩ := box3 hVh
      have k0 := Lib.frozen_of_heap hVh 0
      have k1 := Lib.frozen_of_heap hVh 1
      have k2 := Lib.frozen_of_heap hVh 2
      obtain ⟨e0, e1, e2⟩ := box3 hh
      have gi : IntKind.i64.wrap ((k : Int) + 1) = ((k + 1 : Nat) : Int) := by rw [IntWalk.i64_in _ (by omega)]; omega
      have hvm := List.mem_of_getElem? hv
      have HB : Hid (RL w V2 w.heap.size lim vs k a' c' xs ∧ wo.heap.size < V2.heap.size ∧ V2.heap[wo.heap.size]? = some (.cells #[.string ⟨v.nm.toArray⟩, .slice v.a v.bs.length v.cap, .int .i64 v.syn] 73) ∧ vs[k]? = some v ∧ Rw byU 1 w v.a v.bs.length v.cap v.bs) := ⟨hS.out.grow hb, (Array.getElem?_eq_some_iff.1 hh).1, hh, hv, HR.out.2.2.1 v hvm⟩
      have HNM : Hid (∀ W, Calls Try.prog 89 #[.string ⟨v.nm.toArray⟩] W fun e w' => e = .returned (.bool (nameOk v.nm)) ∧ w' = W) := rNamed v.nm (HR.out.2.2.2.1 v hvm)
      have HFL : Hid (Calls Try.prog 90 #[.pointer (some ⟨w.heap.size, 0, none⟩), .string ⟨v.nm.toArray⟩] V2 fun e w' => e = .returned (fileA xs v.nm) ∧ Below V2.heap.size V2 w') := rFile HB.out.1.at_ (by have := HB.out.1.len (by have := HR.out.1.len; have := HR.out.2.1; omega); omega) v.nm
      have hgd := HGD.out k v hkm hv
      have hnin := HNI.out k v hkm hv
      rw [hgd.1] at HNM
      have hfa : fileA xs v.nm = noA v.nm := fileA_miss (fun x hx e => hnin ((hS.out.names v.nm).1 ⟨x, hx, e⟩))
      have HFI : Hid (Calls Try.prog 90 #[.pointer (some ⟨w.heap.size, 0, none⟩), .string ⟨v.nm.toArray⟩] V2 fun e w' => e = .returned (.agg #[.string ⟨v.nm.toArray⟩, .bool false, .slice none 0 0, .int .i64 0]) ∧ Below V2.heap.size V2 w') := by have := HFL.out; rwa [hfa] at this
      have g1 : ¬ v.syn < 0 := by omega
      have g2 : ¬ (v.bs.length : Int) < v.syn := by omega
      have d1 : decide (v.syn < 0) = false := decide_eq_false g1
      have d2 : decide ((v.bs.length : Int) < v.syn) = false := decide_eq_false g2
      have hsn := sumI_snoc hv
      have hsle := sumI_le vs (k + 1)
      have htot := HR.out.2.2.2.2
      have HG : Hid (v.nm ∉ (vs.take k).map (·.nm) ∧ 0 ≤ v.syn ∧ v.syn ≤ (v.bs.length : Int) ∧ v.bs.length ≤ 1099511627776) := ⟨hnin, hgd.2.1, hgd.2.2, by omega⟩
      have gr : IntKind.i64.wrap ((lim : Int) - (sumI (vs.take k) : Int) - (v.bs.length : Int)) = (lim : Int) - (sumI (vs.take (k + 1)) : Int) := by rw [IntWalk.i64_in _ (by omega)]; omega
      generalize hs1 : sumI (vs.take k) = s1 at *
      generalize hs2 : sumI (vs.take (k + 1)) = s2 at *
      have HRM : Hid (sumI (vs.take (k + 1)) = s2) := hs2
      clear hcell hv hvm hVh hh hb hg hgd hnin hfa hsn hsle htot hs1 hs2 HFL
      go_wp2_with fail
      refine (HNM.out _).mono ?_
      rintro e wz ⟨rfl, hz⟩
      rw [hz]
      clear hz wz
      go_wp2_with fail
      refine (HFI.out).mono ?_
      rintro e w5 ⟨rfl, hb5⟩
      obtain ⟨V4, hV4⟩ : ∃ V4, w5.alloc (.cells #[.string ⟨#[]⟩, .bool false, .slice none 0 0, .int .i64 0] 126) = V4 := ⟨_, rfl⟩
      have hb4 : Below w5.heap.size w5 V4 := by rw [← hV4]; exact (Below.refl _ _).alloc (Nat.le_refl _) _
      have hh4 : V4.heap[w5.heap.size]? = some (.cells #[.string ⟨#[]⟩, .bool false, .slice none 0 0, .int .i64 0] 126) := by rw [← hV4]; exact (MapKept.heap_alloc w5 _).1
      obtain ⟨V5, hV5, hh9, hC9⟩ := set4 hh4 (.string ⟨v.nm.toArray⟩) (.bool false) (.slice none 0 0) (.int .i64 0)
      obtain ⟨y0, y1, y2, y3⟩ := box4 hh4
      have j0 := Lib.frozen_of_heap hh4 0
      have j1 := Lib.frozen_of_heap hh4 1
      have j2 := Lib.frozen_of_heap hh4 2
      have j3 := Lib.frozen_of_heap hh4 3
      obtain ⟨t0, t1, t2, t3⟩ := box4 hh9
      have hb6 : Below V2.heap.size V2 V5 := (hb5.trans (hb4.mono hb5.size)).trans (hC9.below (fun g e => by have := hb5.size; omega) (by have := hb5.size; have := hb4.size; omega))
      obtain ⟨p0, p1, p2⟩ := box3 ((hb6.block _ HB.out.2.1).trans HB.out.2.2.1)
      have H5 : Hid (RL w V5 w.heap.size lim vs k a' c' xs ∧ V5.heap[wo.heap.size]? = some (.cells #[.string ⟨v.nm.toArray⟩, .slice v.a v.bs.length v.cap, .int .i64 v.syn] 73) ∧ wo.heap.size < V5.heap.size) := ⟨HB.out.1.grow hb6, (hb6.block _ HB.out.2.1).trans HB.out.2.2.1, Nat.lt_of_lt_of_le HB.out.2.1 hb6.size⟩
      clear hb5 hb6 hb4 hh4 hh9 hC9
      go_wp2_with fail
      have HKP : Hid (∀ W : World, W.heap[wo.heap.size]? = V5.heap[wo.heap.size]? → (fun W => W.cell? ⟨wo.heap.size, 0, none⟩ = some (.string ⟨v.nm.toArray⟩) ∧ W.cell? ⟨wo.heap.size, 1, none⟩ = some (.slice v.a v.bs.length v.cap) ∧ W.cell? ⟨wo.heap.size, 2, none⟩ = some (.int .i64 v.syn)) W) := fun W e => box3 (e.trans H5.out.2.1)
      have HCP : Hid (∀ W, Below V5.heap.size V5 W → Calls Try.prog 92 #[.slice v.a v.bs.length v.cap] W fun e w' => ∃ a' cap', e = .returned (.slice a' v.bs.length cap') ∧ OwnF byU 1 5 w' W.heap.size (.slice a' v.bs.length cap') v.bs ∧ Below W.heap.size W w') := fun W hb => rCopied ((HB.out.2.2.2.2.below H5.out.1.below).below hb) (by have := HG.out.2.2.2; omega)
      clear hV hV2 hV4 hV5 z0 z1 z2 k0 k1 k2 y0 y1 y2 y3 j0 j1 j2 j3 t0 t1 t2 t3 e0 e1 e2 o0 o1 o2 p0 p1 p2
      refine wp_region_held_drew (S := (fun W => W.cell? ⟨wo.heap.size, 0, none⟩ = some (.string ⟨v.nm.toArray⟩) ∧ W.cell? ⟨wo.heap.size, 1, none⟩ = some (.slice v.a v.bs.length v.cap) ∧ W.cell? ⟨wo.heap.size, 2, none⟩ = some (.int .i64 v.syn))) (by kernel_rfl) ?hS1 (fun hHeld => ?rest1)
      case hS1 => exact HKP.out _ rfl
      refine takeD (i := 0) (d := some 59) (v := ?vT2) rfl rfl (by kernel_rfl) (by kernel_rfl) (by kernel_rfl) (fun _ _ _ h => h) (Or.inl ⟨by rfl, ?hyT2⟩) (by assumption) ?rstT2
      case hyT2 => (intro w hSw; (try dsimp only at hSw); go_simp; (try with_reducible rfl))
      try simp only [Act.put, List.setIfInBounds_toArray, List.set_cons_zero, List.set_cons_succ]
      refine takeD (i := 1) (d := some 60) (v := ?vT3) rfl rfl (by kernel_rfl) (by kernel_rfl) (by kernel_rfl) (fun _ _ _ h => h) (Or.inl ⟨by rfl, ?hyT3⟩) (by assumption) ?rstT3
      case hyT3 => (intro w hSw; (try dsimp only at hSw); go_simp; (try with_reducible rfl))
      try simp only [Act.put, List.setIfInBounds_toArray, List.set_cons_zero, List.set_cons_succ]
      refine takeD (i := 2) (d := some 61) (v := ?vT4) rfl rfl (by kernel_rfl) (by kernel_rfl) (by kernel_rfl) (fun _ _ _ h => h) (Or.inl ⟨by rfl, ?hyT4⟩) (by assumption) ?rstT4
      case hyT4 => (intro w hSw; (try dsimp only at hSw); go_simp; (try with_reducible rfl))
      try simp only [Act.put, List.setIfInBounds_toArray, List.set_cons_zero, List.set_cons_succ]
      refine takeD (i := 3) (d := some 62) (v := ?vT5) rfl rfl (by kernel_rfl) (by kernel_rfl) (by kernel_rfl) (fun _ _ _ h => h) (Or.inl ⟨by rfl, ?hyT5⟩) (by assumption) ?rstT5
      case hyT5 => (intro w hSw; (try dsimp only at hSw); go_simp; (try with_reducible rfl))
      try simp only [Act.put, List.setIfInBounds_toArray, List.set_cons_zero, List.set_cons_succ]
      refine takeD (i := 4) (d := some 63) (v := ?vT6) rfl rfl (by kernel_rfl) (by kernel_rfl) (by kernel_rfl) (fun _ _ _ h => h) (Or.inl ⟨by rfl, ?hyT6⟩) (by assumption) ?rstT6
      case hyT6 => (intro w hSw; (try dsimp only at hSw); go_simp; (try with_reducible rfl))
      try simp only [Act.put, List.setIfInBounds_toArray, List.set_cons_zero, List.set_cons_succ]
      refine takeD (i := 6) (d := some 65) (v := ?vT7) rfl rfl (by kernel_rfl) (by kernel_rfl) (by kernel_rfl) (fun _ _ _ h => h) (Or.inl ⟨by rfl, ?hyT7⟩) (by assumption) ?rstT7
      case hyT7 => (intro w hSw; (try dsimp only at hSw); go_simp; (try with_reducible rfl))
      try simp only [Act.put, List.setIfInBounds_toArray, List.set_cons_zero, List.set_cons_succ]
      refine takeD (i := 7) (d := some 66) (v := ?vT8) rfl rfl (by kernel_rfl) (by kernel_rfl) (by kernel_rfl) (fun _ _ _ h => h) (Or.inl ⟨by rfl, ?hyT8⟩) (by assumption) ?rstT8
      case hyT8 => (intro w hSw; (try dsimp only at hSw); go_simp; (try with_reducible rfl))
      try simp only [Act.put, List.setIfInBounds_toArray, List.set_cons_zero, List.set_cons_succ]
      refine wpAnyH_ready (rs := [5]) (by kernel_rfl) (by simp) ?_
      refine AllReadyH.cons rfl (fun K hK => ?_) AllReadyH.nil
      go_simp
      refine (HCP.out _ ((Below.refl _ _).drew)).mono ?_
      rintro e w7 ⟨a7, c7, rfl, ho7, hb7⟩
      have hcur7 : Below V5.heap.size V5 w7 := ((Below.refl _ _).drew).trans hb7
      have H7 : Hid (OwnF byU 1 5 w7 V5.heap.size (.slice a7 v.bs.length c7) v.bs ∧ Below V5.heap.size V5 w7 ∧ RL w w7 w.heap.size lim vs k a' c' xs) := ⟨ho7, hcur7, H5.out.1.grow hcur7⟩
      clear ho7 hb7 hcur7
      clear hHeld
      refine hK.out _ _ ?hS9 (fun hHeld => ?rest9)
      case hS9 => exact HKP.out _ (H7.out.2.1.block _ H5.out.2.2)
      clear hK K
      try simp only [Act.put, List.setIfInBounds_toArray, List.set_cons_zero, List.set_cons_succ]
      refine takeD (i := 8) (d := some 67) (v := ?vT10) rfl rfl (by kernel_rfl) (by kernel_rfl) (by kernel_rfl) (fun _ _ _ h => h) (Or.inl ⟨by rfl, ?hyT10⟩) (by assumption) ?rstT10
      case hyT10 => (intro w hSw; (try dsimp only at hSw); go_simp; (try with_reducible rfl))
      try simp only [Act.put, List.setIfInBounds_toArray, List.set_cons_zero, List.set_cons_succ]
      refine wpAnyH_ready (rs := [9]) (by kernel_rfl) (by simp) ?_
      refine AllReadyH.cons rfl (fun K hK => ?_) AllReadyH.nil
      go_simp
      have hst := load_store H7.out.2.2 (by have := HR.out.1.len; have := HR.out.2.1; omega) HB.out.2.2.2.1 HG.out.1 HG.out.2.1 HG.out.2.2.1 H7.out.1 H5.out.1.below.size
      refine hst.mono ?_
      rintro e w8 ⟨rfl, xs8, a8, c8, hN8, hC8⟩
      have HN9 : Hid (RL w w8 w.heap.size lim vs (k + 1) a8 c8 xs8) := hN8
      have HC8 : Hid (Chg (fun g => g = w.heap.size) w7 w8) := hC8
      clear hN8 hC8 hst
      clear hHeld
      refine hK.out _ _ ?hS11 (fun hHeld => ?rest11)
      case hS11 => exact HKP.out _ ((HC8.out.2 _ (Nat.lt_of_lt_of_le H5.out.2.2 H7.out.2.1.size) (by have h1 := hS.out.at_.lt _ (.inl rfl); omega)).trans (H7.out.2.1.block _ H5.out.2.2))
      clear hK K
      try simp only [Act.put, List.setIfInBounds_toArray, List.set_cons_zero, List.set_cons_succ]
      refine wpAnyH_done (by kernel_rfl) ?_ _
      go_wp2_with fail
      go_roundw
      case rel => exact ⟨k + 1, by omega, by first | rfl | go_num, by first | rfl | (rw [HRM.out]), _, _, _, HN9.out⟩
      case measure => simp [RowKit.intOf]; omega
    · obtain rfl : k = m := by omega
      obtain rfl : n = k := by omega
      have hlt2 : ¬ ((n : Int) < (n : Int)) := by omega
      have htk : vs.take n = vs := by rw [← HR.out.1.len, List.take_length]
      rw [htk]
      have hr0 : ¬ ((lim : Int) - (sumI vs : Int) < 0) := by have := HTOT.out; omega
      clear htk
      go_wp2_with fail
      go_ret2
      exact ⟨rfl, a', c', xs, hS.out⟩
end Go.Proofs.Ytfehgaioioejoaa

/-! The reference's Load where it refuses. -/
namespace Go.Proofs.Ytfehgaioioejoaa
open Go.RowKit Go.Lib
set_option maxRecDepth 100000

set_option maxHeartbeats 4000000 in
theorem rLoad_f1 {w : World} {a : Option Addr} {n c : Nat} {vs : List Fi} (h : Rw fiV 3 w a n c vs) (hn : n ≤ 1000000000) (hby : ∀ v ∈ vs, Rw byU 1 w v.a v.bs.length v.cap v.bs) (hnm : ∀ v ∈ vs, v.nm.length ≤ 9223372036854775807) (hsum : sumI vs ≤ 1099511627776) {lim : Nat} (hl : lim ≤ 1099511627776) {m : Nat} {u : Fi} (hu : vs[m]? = some u) (hg : GoodPre (vs.take m)) (hne : faultE ((vs.take m).map (·.nm)) u ≠ 0) (hbad : nameOk u.nm = false) :
    Calls Try.prog 58 #[.int .i64 (lim : Int), .slice a n c] w fun e w' => e = .returned (.tuple #[.pointer none, .int .i64 113]) ∧ Below w.heap.size w w' := by
  have HR : Hid (Rw fiV 3 w a n c vs ∧ n ≤ 1000000000 ∧ (∀ v ∈ vs, Rw byU 1 w v.a v.bs.length v.cap v.bs) ∧ (∀ v ∈ vs, v.nm.length ≤ 9223372036854775807) ∧ sumI vs ≤ 1099511627776) := ⟨h, hn, hby, hnm, hsum⟩
  have HL : Hid (lim ≤ 1099511627776) := hl
  have hnc : (n : Int) ≤ 1000000000 := by omega
  have hlc : (lim : Int) ≤ 1099511627776 := by omega
  have hmn : m < n := by have := h.len; have := (List.getElem?_eq_some_iff.1 hu).1; omega
  have HGD : Hid (∀ k v, k < m → vs[k]? = some v → nameOk v.nm = true ∧ 0 ≤ v.syn ∧ v.syn ≤ (v.bs.length : Int)) := fun k v hk hv => hg.ok v (List.mem_of_getElem? (i := k) (by rw [List.getElem?_take, if_pos hk, hv]))
  have HNI : Hid (∀ k v, k < m → vs[k]? = some v → v.nm ∉ (vs.take k).map (·.nm)) := fun k v hk hv => by
    have h1 := nodup_fresh hg.nd (k := k) (v := v) (by rw [List.getElem?_take, if_pos hk, hv])
    rwa [List.take_take, Nat.min_eq_left (by omega)] at h1
  have HU : Hid (vs[m]? = some u ∧ faultE ((vs.take m).map (·.nm)) u ≠ 0) := ⟨hu, hne⟩
  clear hg hu hne
  clear h hn hby hnm hsum hl
  go_enter Try.func58, Try.ntmps58
  go_wp2_with fail
  refine (rNew lim HL.out w).mono ?_
  rintro e w1 ⟨rfl, hD, hb1⟩
  have H1 : Hid (RL w w1 w.heap.size lim vs 0 none 0 []) := ⟨hD, List.Pairwise.nil, by simp, fun g hg => by (rcases hg with h | ⟨q, h, _⟩ | ⟨x, h, _⟩ <;> first | omega | cases h), hb1⟩
  clear hD hb1
  go_wp2_with fail
  go_loopw [8, 9] (fun vr vi wr => ∃ k : Nat, k ≤ m ∧ vi = .int .i64 (k : Int) ∧ vr = .int .i64 ((lim : Int) - (sumI (vs.take k) : Int)) ∧ ∃ (a' : Option Addr) (c' : Nat) (xs : List Rf), Hid (RL w wr w.heap.size lim vs k a' c' xs)) (fun _ vi _ => n - (RowKit.intOf vi).toNat)
  case atStart => exact ⟨0, Nat.zero_le _, rfl, by simp [sumI], none, 0, [], H1.out⟩
  case round =>
    obtain ⟨wo, hwo⟩ : ∃ wo, wo = wr := ⟨_, rfl⟩
    subst hwo
    obtain ⟨k, hk, rfl, rfl, a', c', xs, hS⟩ := hrel
    have hlt : k < n := by omega
    have hlt2 : (k : Int) < (n : Int) := by omega
    by_cases hkm : k < m
    · skip
      obtain ⟨g, off, v, ha, hg, hv, hcell⟩ := (HR.out.1.below hS.out.below).at k hlt
      subst ha
      have o0 := hcell 0 _ rfl
      have o1 := hcell 1 _ rfl
      have o2 := hcell 2 _ rfl
      rw [Nat.add_zero] at o0
      obtain ⟨V, V2, hV, hV2, hVh, hh, hb⟩ := fbox wo ⟨v.nm.toArray⟩ v.a v.bs.length v.cap v.syn
      obtain ⟨z0, z1, z2⟩ := box3 hVh
      have k0 := Lib.frozen_of_heap hVh 0
      have k1 := Lib.frozen_of_heap hVh 1
      have k2 := Lib.frozen_of_heap hVh 2
      obtain ⟨e0, e1, e2⟩ := box3 hh
      have gi : IntKind.i64.wrap ((k : Int) + 1) = ((k + 1 : Nat) : Int) := by rw [IntWalk.i64_in _ (by omega)]; omega
      have hvm := List.mem_of_getElem? hv
      have HB : Hid (RL w V2 w.heap.size lim vs k a' c' xs ∧ wo.heap.size < V2.heap.size ∧ V2.heap[wo.heap.size]? = some (.cells #[.string ⟨v.nm.toArray⟩, .slice v.a v.bs.length v.cap, .int .i64 v.syn] 73) ∧ vs[k]? = some v ∧ Rw byU 1 w v.a v.bs.length v.cap v.bs) := ⟨hS.out.grow hb, (Array.getElem?_eq_some_iff.1 hh).1, hh, hv, HR.out.2.2.1 v hvm⟩
      have HNM : Hid (∀ W, Calls Try.prog 89 #[.string ⟨v.nm.toArray⟩] W fun e w' => e = .returned (.bool (nameOk v.nm)) ∧ w' = W) := rNamed v.nm (HR.out.2.2.2.1 v hvm)
      have HFL : Hid (Calls Try.prog 90 #[.pointer (some ⟨w.heap.size, 0, none⟩), .string ⟨v.nm.toArray⟩] V2 fun e w' => e = .returned (fileA xs v.nm) ∧ Below V2.heap.size V2 w') := rFile HB.out.1.at_ (by have := HB.out.1.len (by have := HR.out.1.len; have := HR.out.2.1; omega); omega) v.nm
      have hgd := HGD.out k v hkm hv
      have hnin := HNI.out k v hkm hv
      rw [hgd.1] at HNM
      have hfa : fileA xs v.nm = noA v.nm := fileA_miss (fun x hx e => hnin ((hS.out.names v.nm).1 ⟨x, hx, e⟩))
      have HFI : Hid (Calls Try.prog 90 #[.pointer (some ⟨w.heap.size, 0, none⟩), .string ⟨v.nm.toArray⟩] V2 fun e w' => e = .returned (.agg #[.string ⟨v.nm.toArray⟩, .bool false, .slice none 0 0, .int .i64 0]) ∧ Below V2.heap.size V2 w') := by have := HFL.out; rwa [hfa] at this
      have g1 : ¬ v.syn < 0 := by omega
      have g2 : ¬ (v.bs.length : Int) < v.syn := by omega
      have d1 : decide (v.syn < 0) = false := decide_eq_false g1
      have d2 : decide ((v.bs.length : Int) < v.syn) = false := decide_eq_false g2
      have hsn := sumI_snoc hv
      have hsle := sumI_le vs (k + 1)
      have htot := HR.out.2.2.2.2
      have HG : Hid (v.nm ∉ (vs.take k).map (·.nm) ∧ 0 ≤ v.syn ∧ v.syn ≤ (v.bs.length : Int) ∧ v.bs.length ≤ 1099511627776) := ⟨hnin, hgd.2.1, hgd.2.2, by omega⟩
      have gr : IntKind.i64.wrap ((lim : Int) - (sumI (vs.take k) : Int) - (v.bs.length : Int)) = (lim : Int) - (sumI (vs.take (k + 1)) : Int) := by rw [IntWalk.i64_in _ (by omega)]; omega
      generalize hs1 : sumI (vs.take k) = s1 at *
      generalize hs2 : sumI (vs.take (k + 1)) = s2 at *
      have HRM : Hid (sumI (vs.take (k + 1)) = s2) := hs2
      clear hcell hv hvm hVh hh hb hg hgd hnin hfa hsn hsle htot hs1 hs2 HFL
      go_wp2_with fail
      refine (HNM.out _).mono ?_
      rintro e wz ⟨rfl, hz⟩
      rw [hz]
      clear hz wz
      go_wp2_with fail
      refine (HFI.out).mono ?_
      rintro e w5 ⟨rfl, hb5⟩
      obtain ⟨V4, hV4⟩ : ∃ V4, w5.alloc (.cells #[.string ⟨#[]⟩, .bool false, .slice none 0 0, .int .i64 0] 126) = V4 := ⟨_, rfl⟩
      have hb4 : Below w5.heap.size w5 V4 := by rw [← hV4]; exact (Below.refl _ _).alloc (Nat.le_refl _) _
      have hh4 : V4.heap[w5.heap.size]? = some (.cells #[.string ⟨#[]⟩, .bool false, .slice none 0 0, .int .i64 0] 126) := by rw [← hV4]; exact (MapKept.heap_alloc w5 _).1
      obtain ⟨V5, hV5, hh9, hC9⟩ := set4 hh4 (.string ⟨v.nm.toArray⟩) (.bool false) (.slice none 0 0) (.int .i64 0)
      obtain ⟨y0, y1, y2, y3⟩ := box4 hh4
      have j0 := Lib.frozen_of_heap hh4 0
      have j1 := Lib.frozen_of_heap hh4 1
      have j2 := Lib.frozen_of_heap hh4 2
      have j3 := Lib.frozen_of_heap hh4 3
      obtain ⟨t0, t1, t2, t3⟩ := box4 hh9
      have hb6 : Below V2.heap.size V2 V5 := (hb5.trans (hb4.mono hb5.size)).trans (hC9.below (fun g e => by have := hb5.size; omega) (by have := hb5.size; have := hb4.size; omega))
      obtain ⟨p0, p1, p2⟩ := box3 ((hb6.block _ HB.out.2.1).trans HB.out.2.2.1)
      have H5 : Hid (RL w V5 w.heap.size lim vs k a' c' xs ∧ V5.heap[wo.heap.size]? = some (.cells #[.string ⟨v.nm.toArray⟩, .slice v.a v.bs.length v.cap, .int .i64 v.syn] 73) ∧ wo.heap.size < V5.heap.size) := ⟨HB.out.1.grow hb6, (hb6.block _ HB.out.2.1).trans HB.out.2.2.1, Nat.lt_of_lt_of_le HB.out.2.1 hb6.size⟩
      clear hb5 hb6 hb4 hh4 hh9 hC9
      go_wp2_with fail
      have HKP : Hid (∀ W : World, W.heap[wo.heap.size]? = V5.heap[wo.heap.size]? → (fun W => W.cell? ⟨wo.heap.size, 0, none⟩ = some (.string ⟨v.nm.toArray⟩) ∧ W.cell? ⟨wo.heap.size, 1, none⟩ = some (.slice v.a v.bs.length v.cap) ∧ W.cell? ⟨wo.heap.size, 2, none⟩ = some (.int .i64 v.syn)) W) := fun W e => box3 (e.trans H5.out.2.1)
      have HCP : Hid (∀ W, Below V5.heap.size V5 W → Calls Try.prog 92 #[.slice v.a v.bs.length v.cap] W fun e w' => ∃ a' cap', e = .returned (.slice a' v.bs.length cap') ∧ OwnF byU 1 5 w' W.heap.size (.slice a' v.bs.length cap') v.bs ∧ Below W.heap.size W w') := fun W hb => rCopied ((HB.out.2.2.2.2.below H5.out.1.below).below hb) (by have := HG.out.2.2.2; omega)
      clear hV hV2 hV4 hV5 z0 z1 z2 k0 k1 k2 y0 y1 y2 y3 j0 j1 j2 j3 t0 t1 t2 t3 e0 e1 e2 o0 o1 o2 p0 p1 p2
      refine wp_region_held_drew (S := (fun W => W.cell? ⟨wo.heap.size, 0, none⟩ = some (.string ⟨v.nm.toArray⟩) ∧ W.cell? ⟨wo.heap.size, 1, none⟩ = some (.slice v.a v.bs.length v.cap) ∧ W.cell? ⟨wo.heap.size, 2, none⟩ = some (.int .i64 v.syn))) (by kernel_rfl) ?hS1 (fun hHeld => ?rest1)
      case hS1 => exact HKP.out _ rfl
      refine takeD (i := 0) (d := some 59) (v := ?vT2) rfl rfl (by kernel_rfl) (by kernel_rfl) (by kernel_rfl) (fun _ _ _ h => h) (Or.inl ⟨by rfl, ?hyT2⟩) (by assumption) ?rstT2
      case hyT2 => (intro w hSw; (try dsimp only at hSw); go_simp; (try with_reducible rfl))
      try simp only [Act.put, List.setIfInBounds_toArray, List.set_cons_zero, List.set_cons_succ]
      refine takeD (i := 1) (d := some 60) (v := ?vT3) rfl rfl (by kernel_rfl) (by kernel_rfl) (by kernel_rfl) (fun _ _ _ h => h) (Or.inl ⟨by rfl, ?hyT3⟩) (by assumption) ?rstT3
      case hyT3 => (intro w hSw; (try dsimp only at hSw); go_simp; (try with_reducible rfl))
      try simp only [Act.put, List.setIfInBounds_toArray, List.set_cons_zero, List.set_cons_succ]
      refine takeD (i := 2) (d := some 61) (v := ?vT4) rfl rfl (by kernel_rfl) (by kernel_rfl) (by kernel_rfl) (fun _ _ _ h => h) (Or.inl ⟨by rfl, ?hyT4⟩) (by assumption) ?rstT4
      case hyT4 => (intro w hSw; (try dsimp only at hSw); go_simp; (try with_reducible rfl))
      try simp only [Act.put, List.setIfInBounds_toArray, List.set_cons_zero, List.set_cons_succ]
      refine takeD (i := 3) (d := some 62) (v := ?vT5) rfl rfl (by kernel_rfl) (by kernel_rfl) (by kernel_rfl) (fun _ _ _ h => h) (Or.inl ⟨by rfl, ?hyT5⟩) (by assumption) ?rstT5
      case hyT5 => (intro w hSw; (try dsimp only at hSw); go_simp; (try with_reducible rfl))
      try simp only [Act.put, List.setIfInBounds_toArray, List.set_cons_zero, List.set_cons_succ]
      refine takeD (i := 4) (d := some 63) (v := ?vT6) rfl rfl (by kernel_rfl) (by kernel_rfl) (by kernel_rfl) (fun _ _ _ h => h) (Or.inl ⟨by rfl, ?hyT6⟩) (by assumption) ?rstT6
      case hyT6 => (intro w hSw; (try dsimp only at hSw); go_simp; (try with_reducible rfl))
      try simp only [Act.put, List.setIfInBounds_toArray, List.set_cons_zero, List.set_cons_succ]
      refine takeD (i := 6) (d := some 65) (v := ?vT7) rfl rfl (by kernel_rfl) (by kernel_rfl) (by kernel_rfl) (fun _ _ _ h => h) (Or.inl ⟨by rfl, ?hyT7⟩) (by assumption) ?rstT7
      case hyT7 => (intro w hSw; (try dsimp only at hSw); go_simp; (try with_reducible rfl))
      try simp only [Act.put, List.setIfInBounds_toArray, List.set_cons_zero, List.set_cons_succ]
      refine takeD (i := 7) (d := some 66) (v := ?vT8) rfl rfl (by kernel_rfl) (by kernel_rfl) (by kernel_rfl) (fun _ _ _ h => h) (Or.inl ⟨by rfl, ?hyT8⟩) (by assumption) ?rstT8
      case hyT8 => (intro w hSw; (try dsimp only at hSw); go_simp; (try with_reducible rfl))
      try simp only [Act.put, List.setIfInBounds_toArray, List.set_cons_zero, List.set_cons_succ]
      refine wpAnyH_ready (rs := [5]) (by kernel_rfl) (by simp) ?_
      refine AllReadyH.cons rfl (fun K hK => ?_) AllReadyH.nil
      go_simp
      refine (HCP.out _ ((Below.refl _ _).drew)).mono ?_
      rintro e w7 ⟨a7, c7, rfl, ho7, hb7⟩
      have hcur7 : Below V5.heap.size V5 w7 := ((Below.refl _ _).drew).trans hb7
      have H7 : Hid (OwnF byU 1 5 w7 V5.heap.size (.slice a7 v.bs.length c7) v.bs ∧ Below V5.heap.size V5 w7 ∧ RL w w7 w.heap.size lim vs k a' c' xs) := ⟨ho7, hcur7, H5.out.1.grow hcur7⟩
      clear ho7 hb7 hcur7
      clear hHeld
      refine hK.out _ _ ?hS9 (fun hHeld => ?rest9)
      case hS9 => exact HKP.out _ (H7.out.2.1.block _ H5.out.2.2)
      clear hK K
      try simp only [Act.put, List.setIfInBounds_toArray, List.set_cons_zero, List.set_cons_succ]
      refine takeD (i := 8) (d := some 67) (v := ?vT10) rfl rfl (by kernel_rfl) (by kernel_rfl) (by kernel_rfl) (fun _ _ _ h => h) (Or.inl ⟨by rfl, ?hyT10⟩) (by assumption) ?rstT10
      case hyT10 => (intro w hSw; (try dsimp only at hSw); go_simp; (try with_reducible rfl))
      try simp only [Act.put, List.setIfInBounds_toArray, List.set_cons_zero, List.set_cons_succ]
      refine wpAnyH_ready (rs := [9]) (by kernel_rfl) (by simp) ?_
      refine AllReadyH.cons rfl (fun K hK => ?_) AllReadyH.nil
      go_simp
      have hst := load_store H7.out.2.2 (by have := HR.out.1.len; have := HR.out.2.1; omega) HB.out.2.2.2.1 HG.out.1 HG.out.2.1 HG.out.2.2.1 H7.out.1 H5.out.1.below.size
      refine hst.mono ?_
      rintro e w8 ⟨rfl, xs8, a8, c8, hN8, hC8⟩
      have HN9 : Hid (RL w w8 w.heap.size lim vs (k + 1) a8 c8 xs8) := hN8
      have HC8 : Hid (Chg (fun g => g = w.heap.size) w7 w8) := hC8
      clear hN8 hC8 hst
      clear hHeld
      refine hK.out _ _ ?hS11 (fun hHeld => ?rest11)
      case hS11 => exact HKP.out _ ((HC8.out.2 _ (Nat.lt_of_lt_of_le H5.out.2.2 H7.out.2.1.size) (by have h1 := hS.out.at_.lt _ (.inl rfl); omega)).trans (H7.out.2.1.block _ H5.out.2.2))
      clear hK K
      try simp only [Act.put, List.setIfInBounds_toArray, List.set_cons_zero, List.set_cons_succ]
      refine wpAnyH_done (by kernel_rfl) ?_ _
      go_wp2_with fail
      go_roundw
      case rel => exact ⟨k + 1, by omega, by first | rfl | go_num, by first | rfl | (rw [HRM.out]), _, _, _, HN9.out⟩
      case measure => simp [RowKit.intOf]; omega
    · obtain rfl : k = m := by omega
      obtain ⟨g, off, v, ha, hg, hv, hcell⟩ := (HR.out.1.below hS.out.below).at k hlt
      subst ha
      have o0 := hcell 0 _ rfl
      have o1 := hcell 1 _ rfl
      have o2 := hcell 2 _ rfl
      rw [Nat.add_zero] at o0
      obtain ⟨V, V2, hV, hV2, hVh, hh, hb⟩ := fbox wo ⟨v.nm.toArray⟩ v.a v.bs.length v.cap v.syn
      obtain ⟨z0, z1, z2⟩ := box3 hVh
      have k0 := Lib.frozen_of_heap hVh 0
      have k1 := Lib.frozen_of_heap hVh 1
      have k2 := Lib.frozen_of_heap hVh 2
      obtain ⟨e0, e1, e2⟩ := box3 hh
      have gi : IntKind.i64.wrap ((k : Int) + 1) = ((k + 1 : Nat) : Int) := by rw [IntWalk.i64_in _ (by omega)]; omega
      have hvm := List.mem_of_getElem? hv
      have HB : Hid (RL w V2 w.heap.size lim vs k a' c' xs ∧ wo.heap.size < V2.heap.size ∧ V2.heap[wo.heap.size]? = some (.cells #[.string ⟨v.nm.toArray⟩, .slice v.a v.bs.length v.cap, .int .i64 v.syn] 73) ∧ vs[k]? = some v ∧ Rw byU 1 w v.a v.bs.length v.cap v.bs) := ⟨hS.out.grow hb, (Array.getElem?_eq_some_iff.1 hh).1, hh, hv, HR.out.2.2.1 v hvm⟩
      have HNM : Hid (∀ W, Calls Try.prog 89 #[.string ⟨v.nm.toArray⟩] W fun e w' => e = .returned (.bool (nameOk v.nm)) ∧ w' = W) := rNamed v.nm (HR.out.2.2.2.1 v hvm)
      have HFL : Hid (Calls Try.prog 90 #[.pointer (some ⟨w.heap.size, 0, none⟩), .string ⟨v.nm.toArray⟩] V2 fun e w' => e = .returned (fileA xs v.nm) ∧ Below V2.heap.size V2 w') := rFile HB.out.1.at_ (by have := HB.out.1.len (by have := HR.out.1.len; have := HR.out.2.1; omega); omega) v.nm
      have hvu : v = u := by have := HU.out.1; rw [hv] at this; cases this; rfl
      subst hvu
      rw [hbad] at HNM
      clear hcell hv hvm hVh hh hb hg HFL
      go_wp2_with fail
      refine (HNM.out _).mono ?_
      rintro e wz ⟨rfl, hz⟩
      rw [hz]
      clear hz wz
      go_wp2_with fail
      go_ret2
      exact ⟨rfl, HB.out.1.below⟩
set_option maxHeartbeats 4000000 in
theorem rLoad_f2 {w : World} {a : Option Addr} {n c : Nat} {vs : List Fi} (h : Rw fiV 3 w a n c vs) (hn : n ≤ 1000000000) (hby : ∀ v ∈ vs, Rw byU 1 w v.a v.bs.length v.cap v.bs) (hnm : ∀ v ∈ vs, v.nm.length ≤ 9223372036854775807) (hsum : sumI vs ≤ 1099511627776) {lim : Nat} (hl : lim ≤ 1099511627776) {m : Nat} {u : Fi} (hu : vs[m]? = some u) (hg : GoodPre (vs.take m)) (hne : faultE ((vs.take m).map (·.nm)) u ≠ 0) (hok : nameOk u.nm = true) (hin : u.nm ∈ (vs.take m).map (·.nm)) :
    Calls Try.prog 58 #[.int .i64 (lim : Int), .slice a n c] w fun e w' => e = .returned (.tuple #[.pointer none, .int .i64 61]) ∧ Below w.heap.size w w' := by
  have HR : Hid (Rw fiV 3 w a n c vs ∧ n ≤ 1000000000 ∧ (∀ v ∈ vs, Rw byU 1 w v.a v.bs.length v.cap v.bs) ∧ (∀ v ∈ vs, v.nm.length ≤ 9223372036854775807) ∧ sumI vs ≤ 1099511627776) := ⟨h, hn, hby, hnm, hsum⟩
  have HL : Hid (lim ≤ 1099511627776) := hl
  have hnc : (n : Int) ≤ 1000000000 := by omega
  have hlc : (lim : Int) ≤ 1099511627776 := by omega
  have hmn : m < n := by have := h.len; have := (List.getElem?_eq_some_iff.1 hu).1; omega
  have HGD : Hid (∀ k v, k < m → vs[k]? = some v → nameOk v.nm = true ∧ 0 ≤ v.syn ∧ v.syn ≤ (v.bs.length : Int)) := fun k v hk hv => hg.ok v (List.mem_of_getElem? (i := k) (by rw [List.getElem?_take, if_pos hk, hv]))
  have HNI : Hid (∀ k v, k < m → vs[k]? = some v → v.nm ∉ (vs.take k).map (·.nm)) := fun k v hk hv => by
    have h1 := nodup_fresh hg.nd (k := k) (v := v) (by rw [List.getElem?_take, if_pos hk, hv])
    rwa [List.take_take, Nat.min_eq_left (by omega)] at h1
  have HU : Hid (vs[m]? = some u ∧ faultE ((vs.take m).map (·.nm)) u ≠ 0) := ⟨hu, hne⟩
  clear hg hu hne
  clear h hn hby hnm hsum hl
  go_enter Try.func58, Try.ntmps58
  go_wp2_with fail
  refine (rNew lim HL.out w).mono ?_
  rintro e w1 ⟨rfl, hD, hb1⟩
  have H1 : Hid (RL w w1 w.heap.size lim vs 0 none 0 []) := ⟨hD, List.Pairwise.nil, by simp, fun g hg => by (rcases hg with h | ⟨q, h, _⟩ | ⟨x, h, _⟩ <;> first | omega | cases h), hb1⟩
  clear hD hb1
  go_wp2_with fail
  go_loopw [8, 9] (fun vr vi wr => ∃ k : Nat, k ≤ m ∧ vi = .int .i64 (k : Int) ∧ vr = .int .i64 ((lim : Int) - (sumI (vs.take k) : Int)) ∧ ∃ (a' : Option Addr) (c' : Nat) (xs : List Rf), Hid (RL w wr w.heap.size lim vs k a' c' xs)) (fun _ vi _ => n - (RowKit.intOf vi).toNat)
  case atStart => exact ⟨0, Nat.zero_le _, rfl, by simp [sumI], none, 0, [], H1.out⟩
  case round =>
    obtain ⟨wo, hwo⟩ : ∃ wo, wo = wr := ⟨_, rfl⟩
    subst hwo
    obtain ⟨k, hk, rfl, rfl, a', c', xs, hS⟩ := hrel
    have hlt : k < n := by omega
    have hlt2 : (k : Int) < (n : Int) := by omega
    by_cases hkm : k < m
    · skip
      obtain ⟨g, off, v, ha, hg, hv, hcell⟩ := (HR.out.1.below hS.out.below).at k hlt
      subst ha
      have o0 := hcell 0 _ rfl
      have o1 := hcell 1 _ rfl
      have o2 := hcell 2 _ rfl
      rw [Nat.add_zero] at o0
      obtain ⟨V, V2, hV, hV2, hVh, hh, hb⟩ := fbox wo ⟨v.nm.toArray⟩ v.a v.bs.length v.cap v.syn
      obtain ⟨z0, z1, z2⟩ := box3 hVh
      have k0 := Lib.frozen_of_heap hVh 0
      have k1 := Lib.frozen_of_heap hVh 1
      have k2 := Lib.frozen_of_heap hVh 2
      obtain ⟨e0, e1, e2⟩ := box3 hh
      have gi : IntKind.i64.wrap ((k : Int) + 1) = ((k + 1 : Nat) : Int) := by rw [IntWalk.i64_in _ (by omega)]; omega
      have hvm := List.mem_of_getElem? hv
      have HB : Hid (RL w V2 w.heap.size lim vs k a' c' xs ∧ wo.heap.size < V2.heap.size ∧ V2.heap[wo.heap.size]? = some (.cells #[.string ⟨v.nm.toArray⟩, .slice v.a v.bs.length v.cap, .int .i64 v.syn] 73) ∧ vs[k]? = some v ∧ Rw byU 1 w v.a v.bs.length v.cap v.bs) := ⟨hS.out.grow hb, (Array.getElem?_eq_some_iff.1 hh).1, hh, hv, HR.out.2.2.1 v hvm⟩
      have HNM : Hid (∀ W, Calls Try.prog 89 #[.string ⟨v.nm.toArray⟩] W fun e w' => e = .returned (.bool (nameOk v.nm)) ∧ w' = W) := rNamed v.nm (HR.out.2.2.2.1 v hvm)
      have HFL : Hid (Calls Try.prog 90 #[.pointer (some ⟨w.heap.size, 0, none⟩), .string ⟨v.nm.toArray⟩] V2 fun e w' => e = .returned (fileA xs v.nm) ∧ Below V2.heap.size V2 w') := rFile HB.out.1.at_ (by have := HB.out.1.len (by have := HR.out.1.len; have := HR.out.2.1; omega); omega) v.nm
      have hgd := HGD.out k v hkm hv
      have hnin := HNI.out k v hkm hv
      rw [hgd.1] at HNM
      have hfa : fileA xs v.nm = noA v.nm := fileA_miss (fun x hx e => hnin ((hS.out.names v.nm).1 ⟨x, hx, e⟩))
      have HFI : Hid (Calls Try.prog 90 #[.pointer (some ⟨w.heap.size, 0, none⟩), .string ⟨v.nm.toArray⟩] V2 fun e w' => e = .returned (.agg #[.string ⟨v.nm.toArray⟩, .bool false, .slice none 0 0, .int .i64 0]) ∧ Below V2.heap.size V2 w') := by have := HFL.out; rwa [hfa] at this
      have g1 : ¬ v.syn < 0 := by omega
      have g2 : ¬ (v.bs.length : Int) < v.syn := by omega
      have d1 : decide (v.syn < 0) = false := decide_eq_false g1
      have d2 : decide ((v.bs.length : Int) < v.syn) = false := decide_eq_false g2
      have hsn := sumI_snoc hv
      have hsle := sumI_le vs (k + 1)
      have htot := HR.out.2.2.2.2
      have HG : Hid (v.nm ∉ (vs.take k).map (·.nm) ∧ 0 ≤ v.syn ∧ v.syn ≤ (v.bs.length : Int) ∧ v.bs.length ≤ 1099511627776) := ⟨hnin, hgd.2.1, hgd.2.2, by omega⟩
      have gr : IntKind.i64.wrap ((lim : Int) - (sumI (vs.take k) : Int) - (v.bs.length : Int)) = (lim : Int) - (sumI (vs.take (k + 1)) : Int) := by rw [IntWalk.i64_in _ (by omega)]; omega
      generalize hs1 : sumI (vs.take k) = s1 at *
      generalize hs2 : sumI (vs.take (k + 1)) = s2 at *
      have HRM : Hid (sumI (vs.take (k + 1)) = s2) := hs2
      clear hcell hv hvm hVh hh hb hg hgd hnin hfa hsn hsle htot hs1 hs2 HFL
      go_wp2_with fail
      refine (HNM.out _).mono ?_
      rintro e wz ⟨rfl, hz⟩
      rw [hz]
      clear hz wz
      go_wp2_with fail
      refine (HFI.out).mono ?_
      rintro e w5 ⟨rfl, hb5⟩
      obtain ⟨V4, hV4⟩ : ∃ V4, w5.alloc (.cells #[.string ⟨#[]⟩, .bool false, .slice none 0 0, .int .i64 0] 126) = V4 := ⟨_, rfl⟩
      have hb4 : Below w5.heap.size w5 V4 := by rw [← hV4]; exact (Below.refl _ _).alloc (Nat.le_refl _) _
      have hh4 : V4.heap[w5.heap.size]? = some (.cells #[.string ⟨#[]⟩, .bool false, .slice none 0 0, .int .i64 0] 126) := by rw [← hV4]; exact (MapKept.heap_alloc w5 _).1
      obtain ⟨V5, hV5, hh9, hC9⟩ := set4 hh4 (.string ⟨v.nm.toArray⟩) (.bool false) (.slice none 0 0) (.int .i64 0)
      obtain ⟨y0, y1, y2, y3⟩ := box4 hh4
      have j0 := Lib.frozen_of_heap hh4 0
      have j1 := Lib.frozen_of_heap hh4 1
      have j2 := Lib.frozen_of_heap hh4 2
      have j3 := Lib.frozen_of_heap hh4 3
      obtain ⟨t0, t1, t2, t3⟩ := box4 hh9
      have hb6 : Below V2.heap.size V2 V5 := (hb5.trans (hb4.mono hb5.size)).trans (hC9.below (fun g e => by have := hb5.size; omega) (by have := hb5.size; have := hb4.size; omega))
      obtain ⟨p0, p1, p2⟩ := box3 ((hb6.block _ HB.out.2.1).trans HB.out.2.2.1)
      have H5 : Hid (RL w V5 w.heap.size lim vs k a' c' xs ∧ V5.heap[wo.heap.size]? = some (.cells #[.string ⟨v.nm.toArray⟩, .slice v.a v.bs.length v.cap, .int .i64 v.syn] 73) ∧ wo.heap.size < V5.heap.size) := ⟨HB.out.1.grow hb6, (hb6.block _ HB.out.2.1).trans HB.out.2.2.1, Nat.lt_of_lt_of_le HB.out.2.1 hb6.size⟩
      clear hb5 hb6 hb4 hh4 hh9 hC9
      go_wp2_with fail
      have HKP : Hid (∀ W : World, W.heap[wo.heap.size]? = V5.heap[wo.heap.size]? → (fun W => W.cell? ⟨wo.heap.size, 0, none⟩ = some (.string ⟨v.nm.toArray⟩) ∧ W.cell? ⟨wo.heap.size, 1, none⟩ = some (.slice v.a v.bs.length v.cap) ∧ W.cell? ⟨wo.heap.size, 2, none⟩ = some (.int .i64 v.syn)) W) := fun W e => box3 (e.trans H5.out.2.1)
      have HCP : Hid (∀ W, Below V5.heap.size V5 W → Calls Try.prog 92 #[.slice v.a v.bs.length v.cap] W fun e w' => ∃ a' cap', e = .returned (.slice a' v.bs.length cap') ∧ OwnF byU 1 5 w' W.heap.size (.slice a' v.bs.length cap') v.bs ∧ Below W.heap.size W w') := fun W hb => rCopied ((HB.out.2.2.2.2.below H5.out.1.below).below hb) (by have := HG.out.2.2.2; omega)
      clear hV hV2 hV4 hV5 z0 z1 z2 k0 k1 k2 y0 y1 y2 y3 j0 j1 j2 j3 t0 t1 t2 t3 e0 e1 e2 o0 o1 o2 p0 p1 p2
      refine wp_region_held_drew (S := (fun W => W.cell? ⟨wo.heap.size, 0, none⟩ = some (.string ⟨v.nm.toArray⟩) ∧ W.cell? ⟨wo.heap.size, 1, none⟩ = some (.slice v.a v.bs.length v.cap) ∧ W.cell? ⟨wo.heap.size, 2, none⟩ = some (.int .i64 v.syn))) (by kernel_rfl) ?hS1 (fun hHeld => ?rest1)
      case hS1 => exact HKP.out _ rfl
      refine takeD (i := 0) (d := some 59) (v := ?vT2) rfl rfl (by kernel_rfl) (by kernel_rfl) (by kernel_rfl) (fun _ _ _ h => h) (Or.inl ⟨by rfl, ?hyT2⟩) (by assumption) ?rstT2
      case hyT2 => (intro w hSw; (try dsimp only at hSw); go_simp; (try with_reducible rfl))
      try simp only [Act.put, List.setIfInBounds_toArray, List.set_cons_zero, List.set_cons_succ]
      refine takeD (i := 1) (d := some 60) (v := ?vT3) rfl rfl (by kernel_rfl) (by kernel_rfl) (by kernel_rfl) (fun _ _ _ h => h) (Or.inl ⟨by rfl, ?hyT3⟩) (by assumption) ?rstT3
      case hyT3 => (intro w hSw; (try dsimp only at hSw); go_simp; (try with_reducible rfl))
      try simp only [Act.put, List.setIfInBounds_toArray, List.set_cons_zero, List.set_cons_succ]
      refine takeD (i := 2) (d := some 61) (v := ?vT4) rfl rfl (by kernel_rfl) (by kernel_rfl) (by kernel_rfl) (fun _ _ _ h => h) (Or.inl ⟨by rfl, ?hyT4⟩) (by assumption) ?rstT4
      case hyT4 => (intro w hSw; (try dsimp only at hSw); go_simp; (try with_reducible rfl))
      try simp only [Act.put, List.setIfInBounds_toArray, List.set_cons_zero, List.set_cons_succ]
      refine takeD (i := 3) (d := some 62) (v := ?vT5) rfl rfl (by kernel_rfl) (by kernel_rfl) (by kernel_rfl) (fun _ _ _ h => h) (Or.inl ⟨by rfl, ?hyT5⟩) (by assumption) ?rstT5
      case hyT5 => (intro w hSw; (try dsimp only at hSw); go_simp; (try with_reducible rfl))
      try simp only [Act.put, List.setIfInBounds_toArray, List.set_cons_zero, List.set_cons_succ]
      refine takeD (i := 4) (d := some 63) (v := ?vT6) rfl rfl (by kernel_rfl) (by kernel_rfl) (by kernel_rfl) (fun _ _ _ h => h) (Or.inl ⟨by rfl, ?hyT6⟩) (by assumption) ?rstT6
      case hyT6 => (intro w hSw; (try dsimp only at hSw); go_simp; (try with_reducible rfl))
      try simp only [Act.put, List.setIfInBounds_toArray, List.set_cons_zero, List.set_cons_succ]
      refine takeD (i := 6) (d := some 65) (v := ?vT7) rfl rfl (by kernel_rfl) (by kernel_rfl) (by kernel_rfl) (fun _ _ _ h => h) (Or.inl ⟨by rfl, ?hyT7⟩) (by assumption) ?rstT7
      case hyT7 => (intro w hSw; (try dsimp only at hSw); go_simp; (try with_reducible rfl))
      try simp only [Act.put, List.setIfInBounds_toArray, List.set_cons_zero, List.set_cons_succ]
      refine takeD (i := 7) (d := some 66) (v := ?vT8) rfl rfl (by kernel_rfl) (by kernel_rfl) (by kernel_rfl) (fun _ _ _ h => h) (Or.inl ⟨by rfl, ?hyT8⟩) (by assumption) ?rstT8
      case hyT8 => (intro w hSw; (try dsimp only at hSw); go_simp; (try with_reducible rfl))
      try simp only [Act.put, List.setIfInBounds_toArray, List.set_cons_zero, List.set_cons_succ]
      refine wpAnyH_ready (rs := [5]) (by kernel_rfl) (by simp) ?_
      refine AllReadyH.cons rfl (fun K hK => ?_) AllReadyH.nil
      go_simp
      refine (HCP.out _ ((Below.refl _ _).drew)).mono ?_
      rintro e w7 ⟨a7, c7, rfl, ho7, hb7⟩
      have hcur7 : Below V5.heap.size V5 w7 := ((Below.refl _ _).drew).trans hb7
      have H7 : Hid (OwnF byU 1 5 w7 V5.heap.size (.slice a7 v.bs.length c7) v.bs ∧ Below V5.heap.size V5 w7 ∧ RL w w7 w.heap.size lim vs k a' c' xs) := ⟨ho7, hcur7, H5.out.1.grow hcur7⟩
      clear ho7 hb7 hcur7
      clear hHeld
      refine hK.out _ _ ?hS9 (fun hHeld => ?rest9)
      case hS9 => exact HKP.out _ (H7.out.2.1.block _ H5.out.2.2)
      clear hK K
      try simp only [Act.put, List.setIfInBounds_toArray, List.set_cons_zero, List.set_cons_succ]
      refine takeD (i := 8) (d := some 67) (v := ?vT10) rfl rfl (by kernel_rfl) (by kernel_rfl) (by kernel_rfl) (fun _ _ _ h => h) (Or.inl ⟨by rfl, ?hyT10⟩) (by assumption) ?rstT10
      case hyT10 => (intro w hSw; (try dsimp only at hSw); go_simp; (try with_reducible rfl))
      try simp only [Act.put, List.setIfInBounds_toArray, List.set_cons_zero, List.set_cons_succ]
      refine wpAnyH_ready (rs := [9]) (by kernel_rfl) (by simp) ?_
      refine AllReadyH.cons rfl (fun K hK => ?_) AllReadyH.nil
      go_simp
      have hst := load_store H7.out.2.2 (by have := HR.out.1.len; have := HR.out.2.1; omega) HB.out.2.2.2.1 HG.out.1 HG.out.2.1 HG.out.2.2.1 H7.out.1 H5.out.1.below.size
      refine hst.mono ?_
      rintro e w8 ⟨rfl, xs8, a8, c8, hN8, hC8⟩
      have HN9 : Hid (RL w w8 w.heap.size lim vs (k + 1) a8 c8 xs8) := hN8
      have HC8 : Hid (Chg (fun g => g = w.heap.size) w7 w8) := hC8
      clear hN8 hC8 hst
      clear hHeld
      refine hK.out _ _ ?hS11 (fun hHeld => ?rest11)
      case hS11 => exact HKP.out _ ((HC8.out.2 _ (Nat.lt_of_lt_of_le H5.out.2.2 H7.out.2.1.size) (by have h1 := hS.out.at_.lt _ (.inl rfl); omega)).trans (H7.out.2.1.block _ H5.out.2.2))
      clear hK K
      try simp only [Act.put, List.setIfInBounds_toArray, List.set_cons_zero, List.set_cons_succ]
      refine wpAnyH_done (by kernel_rfl) ?_ _
      go_wp2_with fail
      go_roundw
      case rel => exact ⟨k + 1, by omega, by first | rfl | go_num, by first | rfl | (rw [HRM.out]), _, _, _, HN9.out⟩
      case measure => simp [RowKit.intOf]; omega
    · obtain rfl : k = m := by omega
      obtain ⟨g, off, v, ha, hg, hv, hcell⟩ := (HR.out.1.below hS.out.below).at k hlt
      subst ha
      have o0 := hcell 0 _ rfl
      have o1 := hcell 1 _ rfl
      have o2 := hcell 2 _ rfl
      rw [Nat.add_zero] at o0
      obtain ⟨V, V2, hV, hV2, hVh, hh, hb⟩ := fbox wo ⟨v.nm.toArray⟩ v.a v.bs.length v.cap v.syn
      obtain ⟨z0, z1, z2⟩ := box3 hVh
      have k0 := Lib.frozen_of_heap hVh 0
      have k1 := Lib.frozen_of_heap hVh 1
      have k2 := Lib.frozen_of_heap hVh 2
      obtain ⟨e0, e1, e2⟩ := box3 hh
      have gi : IntKind.i64.wrap ((k : Int) + 1) = ((k + 1 : Nat) : Int) := by rw [IntWalk.i64_in _ (by omega)]; omega
      have hvm := List.mem_of_getElem? hv
      have HB : Hid (RL w V2 w.heap.size lim vs k a' c' xs ∧ wo.heap.size < V2.heap.size ∧ V2.heap[wo.heap.size]? = some (.cells #[.string ⟨v.nm.toArray⟩, .slice v.a v.bs.length v.cap, .int .i64 v.syn] 73) ∧ vs[k]? = some v ∧ Rw byU 1 w v.a v.bs.length v.cap v.bs) := ⟨hS.out.grow hb, (Array.getElem?_eq_some_iff.1 hh).1, hh, hv, HR.out.2.2.1 v hvm⟩
      have HNM : Hid (∀ W, Calls Try.prog 89 #[.string ⟨v.nm.toArray⟩] W fun e w' => e = .returned (.bool (nameOk v.nm)) ∧ w' = W) := rNamed v.nm (HR.out.2.2.2.1 v hvm)
      have HFL : Hid (Calls Try.prog 90 #[.pointer (some ⟨w.heap.size, 0, none⟩), .string ⟨v.nm.toArray⟩] V2 fun e w' => e = .returned (fileA xs v.nm) ∧ Below V2.heap.size V2 w') := rFile HB.out.1.at_ (by have := HB.out.1.len (by have := HR.out.1.len; have := HR.out.2.1; omega); omega) v.nm
      have hvu : v = u := by have := HU.out.1; rw [hv] at this; cases this; rfl
      subst hvu
      rw [hok] at HNM
      obtain ⟨x, hx, hxe, hfa⟩ : ∃ x ∈ xs, x.nm = v.nm ∧ fileA xs v.nm = rfA x := by
        rcases rcases hS.out.str v.nm with ⟨hno, _, _⟩ | ⟨l, x, t, e, hx, _, _, _, hf⟩
        · obtain ⟨x, hx, he⟩ := (hS.out.names v.nm).2 hin
          exact absurd he (hno x hx)
        · exact ⟨x, by rw [e]; simp, hx, hf⟩
      have HFI : Hid (Calls Try.prog 90 #[.pointer (some ⟨w.heap.size, 0, none⟩), .string ⟨v.nm.toArray⟩] V2 fun e w' => e = .returned (.agg #[.string ⟨x.nm.toArray⟩, .bool true, .slice x.a x.bs.length x.cap, .int .i64 (x.syn : Int)]) ∧ Below V2.heap.size V2 w') := by have := HFL.out; rwa [hfa] at this
      clear hcell hv hvm hVh hh hb hg HFL hfa hx hxe hin
      go_wp2_with fail
      refine (HNM.out _).mono ?_
      rintro e wz ⟨rfl, hz⟩
      rw [hz]
      clear hz wz
      go_wp2_with fail
      refine (HFI.out).mono ?_
      rintro e w5 ⟨rfl, hb5⟩
      obtain ⟨V4, hV4⟩ : ∃ V4, w5.alloc (.cells #[.string ⟨#[]⟩, .bool false, .slice none 0 0, .int .i64 0] 126) = V4 := ⟨_, rfl⟩
      have hb4 : Below w5.heap.size w5 V4 := by rw [← hV4]; exact (Below.refl _ _).alloc (Nat.le_refl _) _
      have hh4 : V4.heap[w5.heap.size]? = some (.cells #[.string ⟨#[]⟩, .bool false, .slice none 0 0, .int .i64 0] 126) := by rw [← hV4]; exact (MapKept.heap_alloc w5 _).1
      obtain ⟨V5, hV5, hh9, hC9⟩ := set4 hh4 (.string ⟨x.nm.toArray⟩) (.bool true) (.slice x.a x.bs.length x.cap) (.int .i64 (x.syn : Int))
      obtain ⟨y0, y1, y2, y3⟩ := box4 hh4
      have j0 := Lib.frozen_of_heap hh4 0
      have j1 := Lib.frozen_of_heap hh4 1
      have j2 := Lib.frozen_of_heap hh4 2
      have j3 := Lib.frozen_of_heap hh4 3
      obtain ⟨t0, t1, t2, t3⟩ := box4 hh9
      have hb6 : Below V2.heap.size V2 V5 := (hb5.trans (hb4.mono hb5.size)).trans (hC9.below (fun g e => by have := hb5.size; omega) (by have := hb5.size; have := hb4.size; omega))
      obtain ⟨p0, p1, p2⟩ := box3 ((hb6.block _ HB.out.2.1).trans HB.out.2.2.1)
      have H5 : Hid (RL w V5 w.heap.size lim vs k a' c' xs ∧ V5.heap[wo.heap.size]? = some (.cells #[.string ⟨v.nm.toArray⟩, .slice v.a v.bs.length v.cap, .int .i64 v.syn] 73) ∧ wo.heap.size < V5.heap.size) := ⟨HB.out.1.grow hb6, (hb6.block _ HB.out.2.1).trans HB.out.2.2.1, Nat.lt_of_lt_of_le HB.out.2.1 hb6.size⟩
      clear hb5 hb6 hb4 hh4 hh9 hC9
      go_wp2_with fail
      go_ret2
      exact ⟨rfl, H5.out.1.below⟩
set_option maxHeartbeats 4000000 in
theorem rLoad_f3 {w : World} {a : Option Addr} {n c : Nat} {vs : List Fi} (h : Rw fiV 3 w a n c vs) (hn : n ≤ 1000000000) (hby : ∀ v ∈ vs, Rw byU 1 w v.a v.bs.length v.cap v.bs) (hnm : ∀ v ∈ vs, v.nm.length ≤ 9223372036854775807) (hsum : sumI vs ≤ 1099511627776) {lim : Nat} (hl : lim ≤ 1099511627776) {m : Nat} {u : Fi} (hu : vs[m]? = some u) (hg : GoodPre (vs.take m)) (hne : faultE ((vs.take m).map (·.nm)) u ≠ 0) (hok : nameOk u.nm = true) (hin : u.nm ∉ (vs.take m).map (·.nm)) (hbad : u.syn < 0 ∨ (u.bs.length : Int) < u.syn) :
    Calls Try.prog 58 #[.int .i64 (lim : Int), .slice a n c] w fun e w' => e = .returned (.tuple #[.pointer none, .int .i64 12]) ∧ Below w.heap.size w w' := by
  have HR : Hid (Rw fiV 3 w a n c vs ∧ n ≤ 1000000000 ∧ (∀ v ∈ vs, Rw byU 1 w v.a v.bs.length v.cap v.bs) ∧ (∀ v ∈ vs, v.nm.length ≤ 9223372036854775807) ∧ sumI vs ≤ 1099511627776) := ⟨h, hn, hby, hnm, hsum⟩
  have HL : Hid (lim ≤ 1099511627776) := hl
  have hnc : (n : Int) ≤ 1000000000 := by omega
  have hlc : (lim : Int) ≤ 1099511627776 := by omega
  have hmn : m < n := by have := h.len; have := (List.getElem?_eq_some_iff.1 hu).1; omega
  have HGD : Hid (∀ k v, k < m → vs[k]? = some v → nameOk v.nm = true ∧ 0 ≤ v.syn ∧ v.syn ≤ (v.bs.length : Int)) := fun k v hk hv => hg.ok v (List.mem_of_getElem? (i := k) (by rw [List.getElem?_take, if_pos hk, hv]))
  have HNI : Hid (∀ k v, k < m → vs[k]? = some v → v.nm ∉ (vs.take k).map (·.nm)) := fun k v hk hv => by
    have h1 := nodup_fresh hg.nd (k := k) (v := v) (by rw [List.getElem?_take, if_pos hk, hv])
    rwa [List.take_take, Nat.min_eq_left (by omega)] at h1
  have HU : Hid (vs[m]? = some u ∧ faultE ((vs.take m).map (·.nm)) u ≠ 0) := ⟨hu, hne⟩
  clear hg hu hne
  clear h hn hby hnm hsum hl
  go_enter Try.func58, Try.ntmps58
  go_wp2_with fail
  refine (rNew lim HL.out w).mono ?_
  rintro e w1 ⟨rfl, hD, hb1⟩
  have H1 : Hid (RL w w1 w.heap.size lim vs 0 none 0 []) := ⟨hD, List.Pairwise.nil, by simp, fun g hg => by (rcases hg with h | ⟨q, h, _⟩ | ⟨x, h, _⟩ <;> first | omega | cases h), hb1⟩
  clear hD hb1
  go_wp2_with fail
  go_loopw [8, 9] (fun vr vi wr => ∃ k : Nat, k ≤ m ∧ vi = .int .i64 (k : Int) ∧ vr = .int .i64 ((lim : Int) - (sumI (vs.take k) : Int)) ∧ ∃ (a' : Option Addr) (c' : Nat) (xs : List Rf), Hid (RL w wr w.heap.size lim vs k a' c' xs)) (fun _ vi _ => n - (RowKit.intOf vi).toNat)
  case atStart => exact ⟨0, Nat.zero_le _, rfl, by simp [sumI], none, 0, [], H1.out⟩
  case round =>
    obtain ⟨wo, hwo⟩ : ∃ wo, wo = wr := ⟨_, rfl⟩
    subst hwo
    obtain ⟨k, hk, rfl, rfl, a', c', xs, hS⟩ := hrel
    have hlt : k < n := by omega
    have hlt2 : (k : Int) < (n : Int) := by omega
    by_cases hkm : k < m
    · skip
      obtain ⟨g, off, v, ha, hg, hv, hcell⟩ := (HR.out.1.below hS.out.below).at k hlt
      subst ha
      have o0 := hcell 0 _ rfl
      have o1 := hcell 1 _ rfl
      have o2 := hcell 2 _ rfl
      rw [Nat.add_zero] at o0
      obtain ⟨V, V2, hV, hV2, hVh, hh, hb⟩ := fbox wo ⟨v.nm.toArray⟩ v.a v.bs.length v.cap v.syn
      obtain ⟨z0, z1, z2⟩ := box3 hVh
      have k0 := Lib.frozen_of_heap hVh 0
      have k1 := Lib.frozen_of_heap hVh 1
      have k2 := Lib.frozen_of_heap hVh 2
      obtain ⟨e0, e1, e2⟩ := box3 hh
      have gi : IntKind.i64.wrap ((k : Int) + 1) = ((k + 1 : Nat) : Int) := by rw [IntWalk.i64_in _ (by omega)]; omega
      have hvm := List.mem_of_getElem? hv
      have HB : Hid (RL w V2 w.heap.size lim vs k a' c' xs ∧ wo.heap.size < V2.heap.size ∧ V2.heap[wo.heap.size]? = some (.cells #[.string ⟨v.nm.toArray⟩, .slice v.a v.bs.length v.cap, .int .i64 v.syn] 73) ∧ vs[k]? = some v ∧ Rw byU 1 w v.a v.bs.length v.cap v.bs) := ⟨hS.out.grow hb, (Array.getElem?_eq_some_iff.1 hh).1, hh, hv, HR.out.2.2.1 v hvm⟩
      have HNM : Hid (∀ W, Calls Try.prog 89 #[.string ⟨v.nm.toArray⟩] W fun e w' => e = .returned (.bool (nameOk v.nm)) ∧ w' = W) := rNamed v.nm (HR.out.2.2.2.1 v hvm)
      have HFL : Hid (Calls Try.prog 90 #[.pointer (some ⟨w.heap.size, 0, none⟩), .string ⟨v.nm.toArray⟩] V2 fun e w' => e = .returned (fileA xs v.nm) ∧ Below V2.heap.size V2 w') := rFile HB.out.1.at_ (by have := HB.out.1.len (by have := HR.out.1.len; have := HR.out.2.1; omega); omega) v.nm
      have hgd := HGD.out k v hkm hv
      have hnin := HNI.out k v hkm hv
      rw [hgd.1] at HNM
      have hfa : fileA xs v.nm = noA v.nm := fileA_miss (fun x hx e => hnin ((hS.out.names v.nm).1 ⟨x, hx, e⟩))
      have HFI : Hid (Calls Try.prog 90 #[.pointer (some ⟨w.heap.size, 0, none⟩), .string ⟨v.nm.toArray⟩] V2 fun e w' => e = .returned (.agg #[.string ⟨v.nm.toArray⟩, .bool false, .slice none 0 0, .int .i64 0]) ∧ Below V2.heap.size V2 w') := by have := HFL.out; rwa [hfa] at this
      have g1 : ¬ v.syn < 0 := by omega
      have g2 : ¬ (v.bs.length : Int) < v.syn := by omega
      have d1 : decide (v.syn < 0) = false := decide_eq_false g1
      have d2 : decide ((v.bs.length : Int) < v.syn) = false := decide_eq_false g2
      have hsn := sumI_snoc hv
      have hsle := sumI_le vs (k + 1)
      have htot := HR.out.2.2.2.2
      have HG : Hid (v.nm ∉ (vs.take k).map (·.nm) ∧ 0 ≤ v.syn ∧ v.syn ≤ (v.bs.length : Int) ∧ v.bs.length ≤ 1099511627776) := ⟨hnin, hgd.2.1, hgd.2.2, by omega⟩
      have gr : IntKind.i64.wrap ((lim : Int) - (sumI (vs.take k) : Int) - (v.bs.length : Int)) = (lim : Int) - (sumI (vs.take (k + 1)) : Int) := by rw [IntWalk.i64_in _ (by omega)]; omega
      generalize hs1 : sumI (vs.take k) = s1 at *
      generalize hs2 : sumI (vs.take (k + 1)) = s2 at *
      have HRM : Hid (sumI (vs.take (k + 1)) = s2) := hs2
      clear hcell hv hvm hVh hh hb hg hgd hnin hfa hsn hsle htot hs1 hs2 HFL
      go_wp2_with fail
      refine (HNM.out _).mono ?_
      rintro e wz ⟨rfl, hz⟩
      rw [hz]
      clear hz wz
      go_wp2_with fail
      refine (HFI.out).mono ?_
      rintro e w5 ⟨rfl, hb5⟩
      obtain ⟨V4, hV4⟩ : ∃ V4, w5.alloc (.cells #[.string ⟨#[]⟩, .bool false, .slice none 0 0, .int .i64 0] 126) = V4 := ⟨_, rfl⟩
      have hb4 : Below w5.heap.size w5 V4 := by rw [← hV4]; exact (Below.refl _ _).alloc (Nat.le_refl _) _
      have hh4 : V4.heap[w5.heap.size]? = some (.cells #[.string ⟨#[]⟩, .bool false, .slice none 0 0, .int .i64 0] 126) := by rw [← hV4]; exact (MapKept.heap_alloc w5 _).1
      obtain ⟨V5, hV5, hh9, hC9⟩ := set4 hh4 (.string ⟨v.nm.toArray⟩) (.bool false) (.slice none 0 0) (.int .i64 0)
      obtain ⟨y0, y1, y2, y3⟩ := box4 hh4
      have j0 := Lib.frozen_of_heap hh4 0
      have j1 := Lib.frozen_of_heap hh4 1
      have j2 := Lib.frozen_of_heap hh4 2
      have j3 := Lib.frozen_of_heap hh4 3
      obtain ⟨t0, t1, t2, t3⟩ := box4 hh9
      have hb6 : Below V2.heap.size V2 V5 := (hb5.trans (hb4.mono hb5.size)).trans (hC9.below (fun g e => by have := hb5.size; omega) (by have := hb5.size; have := hb4.size; omega))
      obtain ⟨p0, p1, p2⟩ := box3 ((hb6.block _ HB.out.2.1).trans HB.out.2.2.1)
      have H5 : Hid (RL w V5 w.heap.size lim vs k a' c' xs ∧ V5.heap[wo.heap.size]? = some (.cells #[.string ⟨v.nm.toArray⟩, .slice v.a v.bs.length v.cap, .int .i64 v.syn] 73) ∧ wo.heap.size < V5.heap.size) := ⟨HB.out.1.grow hb6, (hb6.block _ HB.out.2.1).trans HB.out.2.2.1, Nat.lt_of_lt_of_le HB.out.2.1 hb6.size⟩
      clear hb5 hb6 hb4 hh4 hh9 hC9
      go_wp2_with fail
      have HKP : Hid (∀ W : World, W.heap[wo.heap.size]? = V5.heap[wo.heap.size]? → (fun W => W.cell? ⟨wo.heap.size, 0, none⟩ = some (.string ⟨v.nm.toArray⟩) ∧ W.cell? ⟨wo.heap.size, 1, none⟩ = some (.slice v.a v.bs.length v.cap) ∧ W.cell? ⟨wo.heap.size, 2, none⟩ = some (.int .i64 v.syn)) W) := fun W e => box3 (e.trans H5.out.2.1)
      have HCP : Hid (∀ W, Below V5.heap.size V5 W → Calls Try.prog 92 #[.slice v.a v.bs.length v.cap] W fun e w' => ∃ a' cap', e = .returned (.slice a' v.bs.length cap') ∧ OwnF byU 1 5 w' W.heap.size (.slice a' v.bs.length cap') v.bs ∧ Below W.heap.size W w') := fun W hb => rCopied ((HB.out.2.2.2.2.below H5.out.1.below).below hb) (by have := HG.out.2.2.2; omega)
      clear hV hV2 hV4 hV5 z0 z1 z2 k0 k1 k2 y0 y1 y2 y3 j0 j1 j2 j3 t0 t1 t2 t3 e0 e1 e2 o0 o1 o2 p0 p1 p2
      refine wp_region_held_drew (S := (fun W => W.cell? ⟨wo.heap.size, 0, none⟩ = some (.string ⟨v.nm.toArray⟩) ∧ W.cell? ⟨wo.heap.size, 1, none⟩ = some (.slice v.a v.bs.length v.cap) ∧ W.cell? ⟨wo.heap.size, 2, none⟩ = some (.int .i64 v.syn))) (by kernel_rfl) ?hS1 (fun hHeld => ?rest1)
      case hS1 => exact HKP.out _ rfl
      refine takeD (i := 0) (d := some 59) (v := ?vT2) rfl rfl (by kernel_rfl) (by kernel_rfl) (by kernel_rfl) (fun _ _ _ h => h) (Or.inl ⟨by rfl, ?hyT2⟩) (by assumption) ?rstT2
      case hyT2 => (intro w hSw; (try dsimp only at hSw); go_simp; (try with_reducible rfl))
      try simp only [Act.put, List.setIfInBounds_toArray, List.set_cons_zero, List.set_cons_succ]
      refine takeD (i := 1) (d := some 60) (v := ?vT3) rfl rfl (by kernel_rfl) (by kernel_rfl) (by kernel_rfl) (fun _ _ _ h => h) (Or.inl ⟨by rfl, ?hyT3⟩) (by assumption) ?rstT3
      case hyT3 => (intro w hSw; (try dsimp only at hSw); go_simp; (try with_reducible rfl))
      try simp only [Act.put, List.setIfInBounds_toArray, List.set_cons_zero, List.set_cons_succ]
      refine takeD (i := 2) (d := some 61) (v := ?vT4) rfl rfl (by kernel_rfl) (by kernel_rfl) (by kernel_rfl) (fun _ _ _ h => h) (Or.inl ⟨by rfl, ?hyT4⟩) (by assumption) ?rstT4
      case hyT4 => (intro w hSw; (try dsimp only at hSw); go_simp; (try with_reducible rfl))
      try simp only [Act.put, List.setIfInBounds_toArray, List.set_cons_zero, List.set_cons_succ]
      refine takeD (i := 3) (d := some 62) (v := ?vT5) rfl rfl (by kernel_rfl) (by kernel_rfl) (by kernel_rfl) (fun _ _ _ h => h) (Or.inl ⟨by rfl, ?hyT5⟩) (by assumption) ?rstT5
      case hyT5 => (intro w hSw; (try dsimp only at hSw); go_simp; (try with_reducible rfl))
      try simp only [Act.put, List.setIfInBounds_toArray, List.set_cons_zero, List.set_cons_succ]
      refine takeD (i := 4) (d := some 63) (v := ?vT6) rfl rfl (by kernel_rfl) (by kernel_rfl) (by kernel_rfl) (fun _ _ _ h => h) (Or.inl ⟨by rfl, ?hyT6⟩) (by assumption) ?rstT6
      case hyT6 => (intro w hSw; (try dsimp only at hSw); go_simp; (try with_reducible rfl))
      try simp only [Act.put, List.setIfInBounds_toArray, List.set_cons_zero, List.set_cons_succ]
      refine takeD (i := 6) (d := some 65) (v := ?vT7) rfl rfl (by kernel_rfl) (by kernel_rfl) (by kernel_rfl) (fun _ _ _ h => h) (Or.inl ⟨by rfl, ?hyT7⟩) (by assumption) ?rstT7
      case hyT7 => (intro w hSw; (try dsimp only at hSw); go_simp; (try with_reducible rfl))
      try simp only [Act.put, List.setIfInBounds_toArray, List.set_cons_zero, List.set_cons_succ]
      refine takeD (i := 7) (d := some 66) (v := ?vT8) rfl rfl (by kernel_rfl) (by kernel_rfl) (by kernel_rfl) (fun _ _ _ h => h) (Or.inl ⟨by rfl, ?hyT8⟩) (by assumption) ?rstT8
      case hyT8 => (intro w hSw; (try dsimp only at hSw); go_simp; (try with_reducible rfl))
      try simp only [Act.put, List.setIfInBounds_toArray, List.set_cons_zero, List.set_cons_succ]
      refine wpAnyH_ready (rs := [5]) (by kernel_rfl) (by simp) ?_
      refine AllReadyH.cons rfl (fun K hK => ?_) AllReadyH.nil
      go_simp
      refine (HCP.out _ ((Below.refl _ _).drew)).mono ?_
      rintro e w7 ⟨a7, c7, rfl, ho7, hb7⟩
      have hcur7 : Below V5.heap.size V5 w7 := ((Below.refl _ _).drew).trans hb7
      have H7 : Hid (OwnF byU 1 5 w7 V5.heap.size (.slice a7 v.bs.length c7) v.bs ∧ Below V5.heap.size V5 w7 ∧ RL w w7 w.heap.size lim vs k a' c' xs) := ⟨ho7, hcur7, H5.out.1.grow hcur7⟩
      clear ho7 hb7 hcur7
      clear hHeld
      refine hK.out _ _ ?hS9 (fun hHeld => ?rest9)
      case hS9 => exact HKP.out _ (H7.out.2.1.block _ H5.out.2.2)
      clear hK K
      try simp only [Act.put, List.setIfInBounds_toArray, List.set_cons_zero, List.set_cons_succ]
      refine takeD (i := 8) (d := some 67) (v := ?vT10) rfl rfl (by kernel_rfl) (by kernel_rfl) (by kernel_rfl) (fun _ _ _ h => h) (Or.inl ⟨by rfl, ?hyT10⟩) (by assumption) ?rstT10
      case hyT10 => (intro w hSw; (try dsimp only at hSw); go_simp; (try with_reducible rfl))
      try simp only [Act.put, List.setIfInBounds_toArray, List.set_cons_zero, List.set_cons_succ]
      refine wpAnyH_ready (rs := [9]) (by kernel_rfl) (by simp) ?_
      refine AllReadyH.cons rfl (fun K hK => ?_) AllReadyH.nil
      go_simp
      have hst := load_store H7.out.2.2 (by have := HR.out.1.len; have := HR.out.2.1; omega) HB.out.2.2.2.1 HG.out.1 HG.out.2.1 HG.out.2.2.1 H7.out.1 H5.out.1.below.size
      refine hst.mono ?_
      rintro e w8 ⟨rfl, xs8, a8, c8, hN8, hC8⟩
      have HN9 : Hid (RL w w8 w.heap.size lim vs (k + 1) a8 c8 xs8) := hN8
      have HC8 : Hid (Chg (fun g => g = w.heap.size) w7 w8) := hC8
      clear hN8 hC8 hst
      clear hHeld
      refine hK.out _ _ ?hS11 (fun hHeld => ?rest11)
      case hS11 => exact HKP.out _ ((HC8.out.2 _ (Nat.lt_of_lt_of_le H5.out.2.2 H7.out.2.1.size) (by have h1 := hS.out.at_.lt _ (.inl rfl); omega)).trans (H7.out.2.1.block _ H5.out.2.2))
      clear hK K
      try simp only [Act.put, List.setIfInBounds_toArray, List.set_cons_zero, List.set_cons_succ]
      refine wpAnyH_done (by kernel_rfl) ?_ _
      go_wp2_with fail
      go_roundw
      case rel => exact ⟨k + 1, by omega, by first | rfl | go_num, by first | rfl | (rw [HRM.out]), _, _, _, HN9.out⟩
      case measure => simp [RowKit.intOf]; omega
    · obtain rfl : k = m := by omega
      obtain ⟨g, off, v, ha, hg, hv, hcell⟩ := (HR.out.1.below hS.out.below).at k hlt
      subst ha
      have o0 := hcell 0 _ rfl
      have o1 := hcell 1 _ rfl
      have o2 := hcell 2 _ rfl
      rw [Nat.add_zero] at o0
      obtain ⟨V, V2, hV, hV2, hVh, hh, hb⟩ := fbox wo ⟨v.nm.toArray⟩ v.a v.bs.length v.cap v.syn
      obtain ⟨z0, z1, z2⟩ := box3 hVh
      have k0 := Lib.frozen_of_heap hVh 0
      have k1 := Lib.frozen_of_heap hVh 1
      have k2 := Lib.frozen_of_heap hVh 2
      obtain ⟨e0, e1, e2⟩ := box3 hh
      have gi : IntKind.i64.wrap ((k : Int) + 1) = ((k + 1 : Nat) : Int) := by rw [IntWalk.i64_in _ (by omega)]; omega
      have hvm := List.mem_of_getElem? hv
      have HB : Hid (RL w V2 w.heap.size lim vs k a' c' xs ∧ wo.heap.size < V2.heap.size ∧ V2.heap[wo.heap.size]? = some (.cells #[.string ⟨v.nm.toArray⟩, .slice v.a v.bs.length v.cap, .int .i64 v.syn] 73) ∧ vs[k]? = some v ∧ Rw byU 1 w v.a v.bs.length v.cap v.bs) := ⟨hS.out.grow hb, (Array.getElem?_eq_some_iff.1 hh).1, hh, hv, HR.out.2.2.1 v hvm⟩
      have HNM : Hid (∀ W, Calls Try.prog 89 #[.string ⟨v.nm.toArray⟩] W fun e w' => e = .returned (.bool (nameOk v.nm)) ∧ w' = W) := rNamed v.nm (HR.out.2.2.2.1 v hvm)
      have HFL : Hid (Calls Try.prog 90 #[.pointer (some ⟨w.heap.size, 0, none⟩), .string ⟨v.nm.toArray⟩] V2 fun e w' => e = .returned (fileA xs v.nm) ∧ Below V2.heap.size V2 w') := rFile HB.out.1.at_ (by have := HB.out.1.len (by have := HR.out.1.len; have := HR.out.2.1; omega); omega) v.nm
      have hvu : v = u := by have := HU.out.1; rw [hv] at this; cases this; rfl
      subst hvu
      rw [hok] at HNM
      have hfa : fileA xs v.nm = noA v.nm := fileA_miss (fun x hx e => hin ((hS.out.names v.nm).1 ⟨x, hx, e⟩))
      have HFI : Hid (Calls Try.prog 90 #[.pointer (some ⟨w.heap.size, 0, none⟩), .string ⟨v.nm.toArray⟩] V2 fun e w' => e = .returned (.agg #[.string ⟨v.nm.toArray⟩, .bool false, .slice none 0 0, .int .i64 0]) ∧ Below V2.heap.size V2 w') := by have := HFL.out; rwa [hfa] at this
      by_cases g1 : v.syn < 0
      · clear hbad
        have d1 : decide (v.syn < 0) = true := decide_eq_true g1
        clear hcell hv hvm hVh hh hb hg HFL hfa hin
        go_wp2_with fail
        refine (HNM.out _).mono ?_
        rintro e wz ⟨rfl, hz⟩
        rw [hz]
        clear hz wz
        go_wp2_with fail
        refine (HFI.out).mono ?_
        rintro e w5 ⟨rfl, hb5⟩
        obtain ⟨V4, hV4⟩ : ∃ V4, w5.alloc (.cells #[.string ⟨#[]⟩, .bool false, .slice none 0 0, .int .i64 0] 126) = V4 := ⟨_, rfl⟩
        have hb4 : Below w5.heap.size w5 V4 := by rw [← hV4]; exact (Below.refl _ _).alloc (Nat.le_refl _) _
        have hh4 : V4.heap[w5.heap.size]? = some (.cells #[.string ⟨#[]⟩, .bool false, .slice none 0 0, .int .i64 0] 126) := by rw [← hV4]; exact (MapKept.heap_alloc w5 _).1
        obtain ⟨V5, hV5, hh9, hC9⟩ := set4 hh4 (.string ⟨v.nm.toArray⟩) (.bool false) (.slice none 0 0) (.int .i64 0)
        obtain ⟨y0, y1, y2, y3⟩ := box4 hh4
        have j0 := Lib.frozen_of_heap hh4 0
        have j1 := Lib.frozen_of_heap hh4 1
        have j2 := Lib.frozen_of_heap hh4 2
        have j3 := Lib.frozen_of_heap hh4 3
        obtain ⟨t0, t1, t2, t3⟩ := box4 hh9
        have hb6 : Below V2.heap.size V2 V5 := (hb5.trans (hb4.mono hb5.size)).trans (hC9.below (fun g e => by have := hb5.size; omega) (by have := hb5.size; have := hb4.size; omega))
        obtain ⟨p0, p1, p2⟩ := box3 ((hb6.block _ HB.out.2.1).trans HB.out.2.2.1)
        have H5 : Hid (RL w V5 w.heap.size lim vs k a' c' xs ∧ V5.heap[wo.heap.size]? = some (.cells #[.string ⟨v.nm.toArray⟩, .slice v.a v.bs.length v.cap, .int .i64 v.syn] 73) ∧ wo.heap.size < V5.heap.size) := ⟨HB.out.1.grow hb6, (hb6.block _ HB.out.2.1).trans HB.out.2.2.1, Nat.lt_of_lt_of_le HB.out.2.1 hb6.size⟩
        clear hb5 hb6 hb4 hh4 hh9 hC9
        go_wp2_with fail
        go_ret2
        exact ⟨rfl, H5.out.1.below⟩
      · have g2 : (v.bs.length : Int) < v.syn := by omega
        have d1 : decide (v.syn < 0) = false := decide_eq_false g1
        have d2 : decide ((v.bs.length : Int) < v.syn) = true := decide_eq_true g2
        clear hbad
        clear hcell hv hvm hVh hh hb hg HFL hfa hin
        go_wp2_with fail
        refine (HNM.out _).mono ?_
        rintro e wz ⟨rfl, hz⟩
        rw [hz]
        clear hz wz
        go_wp2_with fail
        refine (HFI.out).mono ?_
        rintro e w5 ⟨rfl, hb5⟩
        obtain ⟨V4, hV4⟩ : ∃ V4, w5.alloc (.cells #[.string ⟨#[]⟩, .bool false, .slice none 0 0, .int .i64 0] 126) = V4 := ⟨_, rfl⟩
        have hb4 : Below w5.heap.size w5 V4 := by rw [← hV4]; exact (Below.refl _ _).alloc (Nat.le_refl _) _
        have hh4 : V4.heap[w5.heap.size]? = some (.cells #[.string ⟨#[]⟩, .bool false, .slice none 0 0, .int .i64 0] 126) := by rw [← hV4]; exact (MapKept.heap_alloc w5 _).1
        obtain ⟨V5, hV5, hh9, hC9⟩ := set4 hh4 (.string ⟨v.nm.toArray⟩) (.bool false) (.slice none 0 0) (.int .i64 0)
        obtain ⟨y0, y1, y2, y3⟩ := box4 hh4
        have j0 := Lib.frozen_of_heap hh4 0
        have j1 := Lib.frozen_of_heap hh4 1
        have j2 := Lib.frozen_of_heap hh4 2
        have j3 := Lib.frozen_of_heap hh4 3
        obtain ⟨t0, t1, t2, t3⟩ := box4 hh9
        have hb6 : Below V2.heap.size V2 V5 := (hb5.trans (hb4.mono hb5.size)).trans (hC9.below (fun g e => by have := hb5.size; omega) (by have := hb5.size; have := hb4.size; omega))
        obtain ⟨p0, p1, p2⟩ := box3 ((hb6.block _ HB.out.2.1).trans HB.out.2.2.1)
        have H5 : Hid (RL w V5 w.heap.size lim vs k a' c' xs ∧ V5.heap[wo.heap.size]? = some (.cells #[.string ⟨v.nm.toArray⟩, .slice v.a v.bs.length v.cap, .int .i64 v.syn] 73) ∧ wo.heap.size < V5.heap.size) := ⟨HB.out.1.grow hb6, (hb6.block _ HB.out.2.1).trans HB.out.2.2.1, Nat.lt_of_lt_of_le HB.out.2.1 hb6.size⟩
        clear hb5 hb6 hb4 hh4 hh9 hC9
        go_wp2_with fail
        go_ret2
        exact ⟨rfl, H5.out.1.below⟩
set_option maxHeartbeats 4000000 in
theorem rLoad_big {w : World} {a : Option Addr} {n c : Nat} {vs : List Fi} (h : Rw fiV 3 w a n c vs) (hn : n ≤ 1000000000) (hby : ∀ v ∈ vs, Rw byU 1 w v.a v.bs.length v.cap v.bs) (hnm : ∀ v ∈ vs, v.nm.length ≤ 9223372036854775807) (hsum : sumI vs ≤ 1099511627776) {lim : Nat} (hl : lim ≤ 1099511627776) (hg : GoodPre vs) (hs : ¬ used (vs.map Fi.fl) ≤ lim) :
    Calls Try.prog 58 #[.int .i64 (lim : Int), .slice a n c] w fun e w' => e = .returned (.tuple #[.pointer none, .int .i64 12]) ∧ Below w.heap.size w w' := by
  have HR : Hid (Rw fiV 3 w a n c vs ∧ n ≤ 1000000000 ∧ (∀ v ∈ vs, Rw byU 1 w v.a v.bs.length v.cap v.bs) ∧ (∀ v ∈ vs, v.nm.length ≤ 9223372036854775807) ∧ sumI vs ≤ 1099511627776) := ⟨h, hn, hby, hnm, hsum⟩
  have HL : Hid (lim ≤ 1099511627776) := hl
  have hnc : (n : Int) ≤ 1000000000 := by omega
  have hlc : (lim : Int) ≤ 1099511627776 := by omega
  obtain ⟨m, hm⟩ : ∃ m, n = m := ⟨_, rfl⟩
  have hmn : m ≤ n := by omega
  have hnm2 : n ≤ m := by omega
  have HGD : Hid (∀ k v, k < m → vs[k]? = some v → nameOk v.nm = true ∧ 0 ≤ v.syn ∧ v.syn ≤ (v.bs.length : Int)) := fun k v hk hv => hg.ok v (List.mem_of_getElem? hv)
  have HNI : Hid (∀ k v, k < m → vs[k]? = some v → v.nm ∉ (vs.take k).map (·.nm)) := fun k v hk hv => nodup_fresh hg.nd hv
  have HTOT : Hid (¬ sumI vs ≤ lim) := by rw [← sumI_used]; exact hs
  clear hg hs hm
  clear h hn hby hnm hsum hl
  go_enter Try.func58, Try.ntmps58
  go_wp2_with fail
  refine (rNew lim HL.out w).mono ?_
  rintro e w1 ⟨rfl, hD, hb1⟩
  have H1 : Hid (RL w w1 w.heap.size lim vs 0 none 0 []) := ⟨hD, List.Pairwise.nil, by simp, fun g hg => by (rcases hg with h | ⟨q, h, _⟩ | ⟨x, h, _⟩ <;> first | omega | cases h), hb1⟩
  clear hD hb1
  go_wp2_with fail
  go_loopw [8, 9] (fun vr vi wr => ∃ k : Nat, k ≤ m ∧ vi = .int .i64 (k : Int) ∧ vr = .int .i64 ((lim : Int) - (sumI (vs.take k) : Int)) ∧ ∃ (a' : Option Addr) (c' : Nat) (xs : List Rf), Hid (RL w wr w.heap.size lim vs k a' c' xs)) (fun _ vi _ => n - (RowKit.intOf vi).toNat)
  case atStart => exact ⟨0, Nat.zero_le _, rfl, by simp [sumI], none, 0, [], H1.out⟩
  case round =>
    obtain ⟨wo, hwo⟩ : ∃ wo, wo = wr := ⟨_, rfl⟩
    subst hwo
    obtain ⟨k, hk, rfl, rfl, a', c', xs, hS⟩ := hrel
    by_cases hkm : k < m
    · have hlt : k < n := by omega
      have hlt2 : (k : Int) < (n : Int) := by omega
      obtain ⟨g, off, v, ha, hg, hv, hcell⟩ := (HR.out.1.below hS.out.below).at k hlt
      subst ha
      have o0 := hcell 0 _ rfl
      have o1 := hcell 1 _ rfl
      have o2 := hcell 2 _ rfl
      rw [Nat.add_zero] at o0
      obtain ⟨V, V2, hV, hV2, hVh, hh, hb⟩ := fbox wo ⟨v.nm.toArray⟩ v.a v.bs.length v.cap v.syn
      obtain ⟨z0, z1, z2⟩ := box3 hVh
      have k0 := Lib.frozen_of_heap hVh 0
      have k1 := Lib.frozen_of_heap hVh 1
      have k2 := Lib.frozen_of_heap hVh 2
      obtain ⟨e0, e1, e2⟩ := box3 hh
      have gi : IntKind.i64.wrap ((k : Int) + 1) = ((k + 1 : Nat) : Int) := by rw [IntWalk.i64_in _ (by omega)]; omega
      have hvm := List.mem_of_getElem? hv
      have HB : Hid (RL w V2 w.heap.size lim vs k a' c' xs ∧ wo.heap.size < V2.heap.size ∧ V2.heap[wo.heap.size]? = some (.cells #[.string ⟨v.nm.toArray⟩, .slice v.a v.bs.length v.cap, .int .i64 v.syn] 73) ∧ vs[k]? = some v ∧ Rw byU 1 w v.a v.bs.length v.cap v.bs) := ⟨hS.out.grow hb, (Array.getElem?_eq_some_iff.1 hh).1, hh, hv, HR.out.2.2.1 v hvm⟩
      have HNM : Hid (∀ W, Calls Try.prog 89 #[.string ⟨v.nm.toArray⟩] W fun e w' => e = .returned (.bool (nameOk v.nm)) ∧ w' = W) := rNamed v.nm (HR.out.2.2.2.1 v hvm)
      have HFL : Hid (Calls Try.prog 90 #[.pointer (some ⟨w.heap.size, 0, none⟩), .string ⟨v.nm.toArray⟩] V2 fun e w' => e = .returned (fileA xs v.nm) ∧ Below V2.heap.size V2 w') := rFile HB.out.1.at_ (by have := HB.out.1.len (by have := HR.out.1.len; have := HR.out.2.1; omega); omega) v.nm
      have hgd := HGD.out k v hkm hv
      have hnin := HNI.out k v hkm hv
      rw [hgd.1] at HNM
      have hfa : fileA xs v.nm = noA v.nm := fileA_miss (fun x hx e => hnin ((hS.out.names v.nm).1 ⟨x, hx, e⟩))
      have HFI : Hid (Calls Try.prog 90 #[.pointer (some ⟨w.heap.size, 0, none⟩), .string ⟨v.nm.toArray⟩] V2 fun e w' => e = .returned (.agg #[.string ⟨v.nm.toArray⟩, .bool false, .slice none 0 0, .int .i64 0]) ∧ Below V2.heap.size V2 w') := by have := HFL.out; rwa [hfa] at this
      have g1 : ¬ v.syn < 0 := by omega
      have g2 : ¬ (v.bs.length : Int) < v.syn := by omega
      have d1 : decide (v.syn < 0) = false := decide_eq_false g1
      have d2 : decide ((v.bs.length : Int) < v.syn) = false := decide_eq_false g2
      have hsn := sumI_snoc hv
      have hsle := sumI_le vs (k + 1)
      have htot := HR.out.2.2.2.2
      have HG : Hid (v.nm ∉ (vs.take k).map (·.nm) ∧ 0 ≤ v.syn ∧ v.syn ≤ (v.bs.length : Int) ∧ v.bs.length ≤ 1099511627776) := ⟨hnin, hgd.2.1, hgd.2.2, by omega⟩
      have gr : IntKind.i64.wrap ((lim : Int) - (sumI (vs.take k) : Int) - (v.bs.length : Int)) = (lim : Int) - (sumI (vs.take (k + 1)) : Int) := by rw [IntWalk.i64_in _ (by omega)]; omega
      generalize hs1 : sumI (vs.take k) = s1 at *
      generalize hs2 : sumI (vs.take (k + 1)) = s2 at *
      have HRM : Hid (sumI (vs.take (k + 1)) = s2) := hs2
      clear hcell hv hvm hVh hh hb hg hgd hnin hfa hsn hsle htot hs1 hs2 HFL
      go_wp2_with fail
      refine (HNM.out _).mono ?_
      rintro e wz ⟨rfl, hz⟩
      rw [hz]
      clear hz wz
      go_wp2_with fail
      refine (HFI.out).mono ?_
      rintro e w5 ⟨rfl, hb5⟩
      obtain ⟨V4, hV4⟩ : ∃ V4, w5.alloc (.cells #[.string ⟨#[]⟩, .bool false, .slice none 0 0, .int .i64 0] 126) = V4 := ⟨_, rfl⟩
      have hb4 : Below w5.heap.size w5 V4 := by rw [← hV4]; exact (Below.refl _ _).alloc (Nat.le_refl _) _
      have hh4 : V4.heap[w5.heap.size]? = some (.cells #[.string ⟨#[]⟩, .bool false, .slice none 0 0, .int .i64 0] 126) := by rw [← hV4]; exact (MapKept.heap_alloc w5 _).1
      obtain ⟨V5, hV5, hh9, hC9⟩ := set4 hh4 (.string ⟨v.nm.toArray⟩) (.bool false) (.slice none 0 0) (.int .i64 0)
      obtain ⟨y0, y1, y2, y3⟩ := box4 hh4
      have j0 := Lib.frozen_of_heap hh4 0
      have j1 := Lib.frozen_of_heap hh4 1
      have j2 := Lib.frozen_of_heap hh4 2
      have j3 := Lib.frozen_of_heap hh4 3
      obtain ⟨t0, t1, t2, t3⟩ := box4 hh9
      have hb6 : Below V2.heap.size V2 V5 := (hb5.trans (hb4.mono hb5.size)).trans (hC9.below (fun g e => by have := hb5.size; omega) (by have := hb5.size; have := hb4.size; omega))
      obtain ⟨p0, p1, p2⟩ := box3 ((hb6.block _ HB.out.2.1).trans HB.out.2.2.1)
      have H5 : Hid (RL w V5 w.heap.size lim vs k a' c' xs ∧ V5.heap[wo.heap.size]? = some (.cells #[.string ⟨v.nm.toArray⟩, .slice v.a v.bs.length v.cap, .int .i64 v.syn] 73) ∧ wo.heap.size < V5.heap.size) := ⟨HB.out.1.grow hb6, (hb6.block _ HB.out.2.1).trans HB.out.2.2.1, Nat.lt_of_lt_of_le HB.out.2.1 hb6.size⟩
      clear hb5 hb6 hb4 hh4 hh9 hC9
      go_wp2_with fail
      have HKP : Hid (∀ W : World, W.heap[wo.heap.size]? = V5.heap[wo.heap.size]? → (fun W => W.cell? ⟨wo.heap.size, 0, none⟩ = some (.string ⟨v.nm.toArray⟩) ∧ W.cell? ⟨wo.heap.size, 1, none⟩ = some (.slice v.a v.bs.length v.cap) ∧ W.cell? ⟨wo.heap.size, 2, none⟩ = some (.int .i64 v.syn)) W) := fun W e => box3 (e.trans H5.out.2.1)
      have HCP : Hid (∀ W, Below V5.heap.size V5 W → Calls Try.prog 92 #[.slice v.a v.bs.length v.cap] W fun e w' => ∃ a' cap', e = .returned (.slice a' v.bs.length cap') ∧ OwnF byU 1 5 w' W.heap.size (.slice a' v.bs.length cap') v.bs ∧ Below W.heap.size W w') := fun W hb => rCopied ((HB.out.2.2.2.2.below H5.out.1.below).below hb) (by have := HG.out.2.2.2; omega)
      clear hV hV2 hV4 hV5 z0 z1 z2 k0 k1 k2 y0 y1 y2 y3 j0 j1 j2 j3 t0 t1 t2 t3 e0 e1 e2 o0 o1 o2 p0 p1 p2
      refine wp_region_held_drew (S := (fun W => W.cell? ⟨wo.heap.size, 0, none⟩ = some (.string ⟨v.nm.toArray⟩) ∧ W.cell? ⟨wo.heap.size, 1, none⟩ = some (.slice v.a v.bs.length v.cap) ∧ W.cell? ⟨wo.heap.size, 2, none⟩ = some (.int .i64 v.syn))) (by kernel_rfl) ?hS1 (fun hHeld => ?rest1)
      case hS1 => exact HKP.out _ rfl
      refine takeD (i := 0) (d := some 59) (v := ?vT2) rfl rfl (by kernel_rfl) (by kernel_rfl) (by kernel_rfl) (fun _ _ _ h => h) (Or.inl ⟨by rfl, ?hyT2⟩) (by assumption) ?rstT2
      case hyT2 => (intro w hSw; (try dsimp only at hSw); go_simp; (try with_reducible rfl))
      try simp only [Act.put, List.setIfInBounds_toArray, List.set_cons_zero, List.set_cons_succ]
      refine takeD (i := 1) (d := some 60) (v := ?vT3) rfl rfl (by kernel_rfl) (by kernel_rfl) (by kernel_rfl) (fun _ _ _ h => h) (Or.inl ⟨by rfl, ?hyT3⟩) (by assumption) ?rstT3
      case hyT3 => (intro w hSw; (try dsimp only at hSw); go_simp; (try with_reducible rfl))
      try simp only [Act.put, List.setIfInBounds_toArray, List.set_cons_zero, List.set_cons_succ]
      refine takeD (i := 2) (d := some 61) (v := ?vT4) rfl rfl (by kernel_rfl) (by kernel_rfl) (by kernel_rfl) (fun _ _ _ h => h) (Or.inl ⟨by rfl, ?hyT4⟩) (by assumption) ?rstT4
      case hyT4 => (intro w hSw; (try dsimp only at hSw); go_simp; (try with_reducible rfl))
      try simp only [Act.put, List.setIfInBounds_toArray, List.set_cons_zero, List.set_cons_succ]
      refine takeD (i := 3) (d := some 62) (v := ?vT5) rfl rfl (by kernel_rfl) (by kernel_rfl) (by kernel_rfl) (fun _ _ _ h => h) (Or.inl ⟨by rfl, ?hyT5⟩) (by assumption) ?rstT5
      case hyT5 => (intro w hSw; (try dsimp only at hSw); go_simp; (try with_reducible rfl))
      try simp only [Act.put, List.setIfInBounds_toArray, List.set_cons_zero, List.set_cons_succ]
      refine takeD (i := 4) (d := some 63) (v := ?vT6) rfl rfl (by kernel_rfl) (by kernel_rfl) (by kernel_rfl) (fun _ _ _ h => h) (Or.inl ⟨by rfl, ?hyT6⟩) (by assumption) ?rstT6
      case hyT6 => (intro w hSw; (try dsimp only at hSw); go_simp; (try with_reducible rfl))
      try simp only [Act.put, List.setIfInBounds_toArray, List.set_cons_zero, List.set_cons_succ]
      refine takeD (i := 6) (d := some 65) (v := ?vT7) rfl rfl (by kernel_rfl) (by kernel_rfl) (by kernel_rfl) (fun _ _ _ h => h) (Or.inl ⟨by rfl, ?hyT7⟩) (by assumption) ?rstT7
      case hyT7 => (intro w hSw; (try dsimp only at hSw); go_simp; (try with_reducible rfl))
      try simp only [Act.put, List.setIfInBounds_toArray, List.set_cons_zero, List.set_cons_succ]
      refine takeD (i := 7) (d := some 66) (v := ?vT8) rfl rfl (by kernel_rfl) (by kernel_rfl) (by kernel_rfl) (fun _ _ _ h => h) (Or.inl ⟨by rfl, ?hyT8⟩) (by assumption) ?rstT8
      case hyT8 => (intro w hSw; (try dsimp only at hSw); go_simp; (try with_reducible rfl))
      try simp only [Act.put, List.setIfInBounds_toArray, List.set_cons_zero, List.set_cons_succ]
      refine wpAnyH_ready (rs := [5]) (by kernel_rfl) (by simp) ?_
      refine AllReadyH.cons rfl (fun K hK => ?_) AllReadyH.nil
      go_simp
      refine (HCP.out _ ((Below.refl _ _).drew)).mono ?_
      rintro e w7 ⟨a7, c7, rfl, ho7, hb7⟩
      have hcur7 : Below V5.heap.size V5 w7 := ((Below.refl _ _).drew).trans hb7
      have H7 : Hid (OwnF byU 1 5 w7 V5.heap.size (.slice a7 v.bs.length c7) v.bs ∧ Below V5.heap.size V5 w7 ∧ RL w w7 w.heap.size lim vs k a' c' xs) := ⟨ho7, hcur7, H5.out.1.grow hcur7⟩
      clear ho7 hb7 hcur7
      clear hHeld
      refine hK.out _ _ ?hS9 (fun hHeld => ?rest9)
      case hS9 => exact HKP.out _ (H7.out.2.1.block _ H5.out.2.2)
      clear hK K
      try simp only [Act.put, List.setIfInBounds_toArray, List.set_cons_zero, List.set_cons_succ]
      refine takeD (i := 8) (d := some 67) (v := ?vT10) rfl rfl (by kernel_rfl) (by kernel_rfl) (by kernel_rfl) (fun _ _ _ h => h) (Or.inl ⟨by rfl, ?hyT10⟩) (by assumption) ?rstT10
      case hyT10 => (intro w hSw; (try dsimp only at hSw); go_simp; (try with_reducible rfl))
      try simp only [Act.put, List.setIfInBounds_toArray, List.set_cons_zero, List.set_cons_succ]
      refine wpAnyH_ready (rs := [9]) (by kernel_rfl) (by simp) ?_
      refine AllReadyH.cons rfl (fun K hK => ?_) AllReadyH.nil
      go_simp
      have hst := load_store H7.out.2.2 (by have := HR.out.1.len; have := HR.out.2.1; omega) HB.out.2.2.2.1 HG.out.1 HG.out.2.1 HG.out.2.2.1 H7.out.1 H5.out.1.below.size
      refine hst.mono ?_
      rintro e w8 ⟨rfl, xs8, a8, c8, hN8, hC8⟩
      have HN9 : Hid (RL w w8 w.heap.size lim vs (k + 1) a8 c8 xs8) := hN8
      have HC8 : Hid (Chg (fun g => g = w.heap.size) w7 w8) := hC8
      clear hN8 hC8 hst
      clear hHeld
      refine hK.out _ _ ?hS11 (fun hHeld => ?rest11)
      case hS11 => exact HKP.out _ ((HC8.out.2 _ (Nat.lt_of_lt_of_le H5.out.2.2 H7.out.2.1.size) (by have h1 := hS.out.at_.lt _ (.inl rfl); omega)).trans (H7.out.2.1.block _ H5.out.2.2))
      clear hK K
      try simp only [Act.put, List.setIfInBounds_toArray, List.set_cons_zero, List.set_cons_succ]
      refine wpAnyH_done (by kernel_rfl) ?_ _
      go_wp2_with fail
      go_roundw
      case rel => exact ⟨k + 1, by omega, by first | rfl | go_num, by first | rfl | (rw [HRM.out]), _, _, _, HN9.out⟩
      case measure => simp [RowKit.intOf]; omega
    · obtain rfl : k = m := by omega
      obtain rfl : n = k := by omega
      have hlt2 : ¬ ((n : Int) < (n : Int)) := by omega
      have htk : vs.take n = vs := by rw [← HR.out.1.len, List.take_length]
      rw [htk]
      have hr0 : (lim : Int) - (sumI vs : Int) < 0 := by have := HTOT.out; omega
      clear htk
      go_wp2_with fail
      go_ret2
      exact ⟨rfl, hS.out.below⟩
end Go.Proofs.Ytfehgaioioejoaa
