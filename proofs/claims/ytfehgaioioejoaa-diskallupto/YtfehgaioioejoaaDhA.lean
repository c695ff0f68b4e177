import Derived.Test.YtfehgaioioejoaaDgY
/-! The exact statements. -/
namespace Go.Proofs.Ytfehgaioioejoaa
open Go.RowKit Go.Lib
set_option maxRecDepth 100000

set_option maxHeartbeats 2000000 in
theorem diskWrites_good {w : World} (L : Int) {fa : Option Addr} {fl fc : Nat} {oa : Option Addr} {on oc : Nat} {vs : List Fi} {ops : List OpR} (hv : Rw fiV 3 w fa fl fc vs) (hn : fl ≤ 1048576) (hby : ∀ v ∈ vs, Rw byU 1 w v.a v.bs.length v.cap v.bs) (hnm : ∀ v ∈ vs, v.nm.length ≤ 9223372036854775807) (hsum : sumI vs ≤ 1048576) (hops : Rw opV 5 w oa on oc ops) (hin : ∀ o ∈ ops, OpIn w o) (hon : on ≤ 1048576) :
    Calls Try.prog 4 #[.agg #[.int .i64 L, .slice fa fl fc, .slice oa on oc]] w fun e w' => e = .returned (.bool true) ∧ Below w.heap.size w w' := by
  have HP : Hid (∀ W, Below w.heap.size w W → Calls Try.prog 20 #[.agg #[.int .i64 L, .slice fa fl fc, .slice oa on oc], .int .i64 1, .int .i64 4] W fun e w' => e = .returned (.bool true) ∧ Below W.heap.size W w') := fun W hb => played_all L (hv.below hb) hn (fun v hm => (hby v hm).below hb) hnm hsum (hops.below hb) (fun o ho => ⟨(hin o ho).row.below hb, (hin o ho).nm, (hin o ho).N, (hin o ho).M, (hin o ho).B⟩) hon 1 4
  obtain ⟨W0, hW0⟩ : ∃ W0, w.alloc (.cells #[.int .i64 L, .slice fa fl fc, .slice oa on oc] 25) = W0 := ⟨_, rfl⟩
  have hb0 : Below w.heap.size w W0 := by rw [← hW0]; exact (Below.refl _ _).alloc (Nat.le_refl _) _
  have hq0 : W0.heap[w.heap.size]? = some (.cells #[.int .i64 L, .slice fa fl fc, .slice oa on oc] 25) := by rw [← hW0]; exact (MapKept.heap_alloc w _).1
  have HQ : Hid (Below w.heap.size w W0 ∧ W0.heap[w.heap.size]? = some (.cells #[.int .i64 L, .slice fa fl fc, .slice oa on oc] 25)) := ⟨hb0, hq0⟩
  clear hv hn hby hnm hsum hops hin hon hb0 hq0
  go_enter Try.func4, Try.ntmps4
  go_wp2_with fail
  refine (awake_any _).mono ?_
  rintro e w1 ⟨rfl, hb1⟩
  have HB1 : Hid (Below w.heap.size w w1) := HQ.out.1.trans (hb1.mono HQ.out.1.size)
  obtain ⟨s0, s1, s2⟩ := box3 ((hb1.block _ (Array.getElem?_eq_some_iff.1 HQ.out.2).1).trans HQ.out.2)
  clear hb1
  go_wp2_with fail
  refine (HP.out _ HB1.out).mono ?_
  rintro e w2 ⟨rfl, hb2⟩
  have HB2 : Hid (Below w.heap.size w w2) := HB1.out.trans (hb2.mono HB1.out.size)
  clear hb2
  go_wp2_with fail
  go_ret
  exact ⟨rfl, HB2.out⟩
set_option maxHeartbeats 2000000 in
theorem diskReads_good {w : World} (L : Int) {fa : Option Addr} {fl fc : Nat} {oa : Option Addr} {on oc : Nat} {vs : List Fi} {ops : List OpR} (hv : Rw fiV 3 w fa fl fc vs) (hn : fl ≤ 1048576) (hby : ∀ v ∈ vs, Rw byU 1 w v.a v.bs.length v.cap v.bs) (hnm : ∀ v ∈ vs, v.nm.length ≤ 9223372036854775807) (hsum : sumI vs ≤ 1048576) (hops : Rw opV 5 w oa on oc ops) (hin : ∀ o ∈ ops, OpIn w o) (hon : on ≤ 1048576) :
    Calls Try.prog 5 #[.agg #[.int .i64 L, .slice fa fl fc, .slice oa on oc]] w fun e w' => e = .returned (.bool true) ∧ Below w.heap.size w w' := by
  have HP : Hid (∀ W, Below w.heap.size w W → Calls Try.prog 20 #[.agg #[.int .i64 L, .slice fa fl fc, .slice oa on oc], .int .i64 5, .int .i64 6] W fun e w' => e = .returned (.bool true) ∧ Below W.heap.size W w') := fun W hb => played_all L (hv.below hb) hn (fun v hm => (hby v hm).below hb) hnm hsum (hops.below hb) (fun o ho => ⟨(hin o ho).row.below hb, (hin o ho).nm, (hin o ho).N, (hin o ho).M, (hin o ho).B⟩) hon 5 6
  obtain ⟨W0, hW0⟩ : ∃ W0, w.alloc (.cells #[.int .i64 L, .slice fa fl fc, .slice oa on oc] 25) = W0 := ⟨_, rfl⟩
  have hb0 : Below w.heap.size w W0 := by rw [← hW0]; exact (Below.refl _ _).alloc (Nat.le_refl _) _
  have hq0 : W0.heap[w.heap.size]? = some (.cells #[.int .i64 L, .slice fa fl fc, .slice oa on oc] 25) := by rw [← hW0]; exact (MapKept.heap_alloc w _).1
  have HQ : Hid (Below w.heap.size w W0 ∧ W0.heap[w.heap.size]? = some (.cells #[.int .i64 L, .slice fa fl fc, .slice oa on oc] 25)) := ⟨hb0, hq0⟩
  clear hv hn hby hnm hsum hops hin hon hb0 hq0
  go_enter Try.func5, Try.ntmps5
  go_wp2_with fail
  refine (awake_any _).mono ?_
  rintro e w1 ⟨rfl, hb1⟩
  have HB1 : Hid (Below w.heap.size w w1) := HQ.out.1.trans (hb1.mono HQ.out.1.size)
  obtain ⟨s0, s1, s2⟩ := box3 ((hb1.block _ (Array.getElem?_eq_some_iff.1 HQ.out.2).1).trans HQ.out.2)
  clear hb1
  go_wp2_with fail
  refine (HP.out _ HB1.out).mono ?_
  rintro e w2 ⟨rfl, hb2⟩
  have HB2 : Hid (Below w.heap.size w w2) := HB1.out.trans (hb2.mono HB1.out.size)
  clear hb2
  go_wp2_with fail
  go_ret
  exact ⟨rfl, HB2.out⟩
set_option maxHeartbeats 2000000 in
theorem diskTells_good {w : World} (L : Int) {fa : Option Addr} {fl fc : Nat} {oa : Option Addr} {on oc : Nat} {vs : List Fi} {ops : List OpR} (hv : Rw fiV 3 w fa fl fc vs) (hn : fl ≤ 1048576) (hby : ∀ v ∈ vs, Rw byU 1 w v.a v.bs.length v.cap v.bs) (hnm : ∀ v ∈ vs, v.nm.length ≤ 9223372036854775807) (hsum : sumI vs ≤ 1048576) (hops : Rw opV 5 w oa on oc ops) (hin : ∀ o ∈ ops, OpIn w o) (hon : on ≤ 1048576) :
    Calls Try.prog 6 #[.agg #[.int .i64 L, .slice fa fl fc, .slice oa on oc]] w fun e w' => e = .returned (.bool true) ∧ Below w.heap.size w w' := by
  have HP : Hid (∀ W, Below w.heap.size w W → Calls Try.prog 20 #[.agg #[.int .i64 L, .slice fa fl fc, .slice oa on oc], .int .i64 7, .int .i64 7] W fun e w' => e = .returned (.bool true) ∧ Below W.heap.size W w') := fun W hb => played_all L (hv.below hb) hn (fun v hm => (hby v hm).below hb) hnm hsum (hops.below hb) (fun o ho => ⟨(hin o ho).row.below hb, (hin o ho).nm, (hin o ho).N, (hin o ho).M, (hin o ho).B⟩) hon 7 7
  obtain ⟨W0, hW0⟩ : ∃ W0, w.alloc (.cells #[.int .i64 L, .slice fa fl fc, .slice oa on oc] 25) = W0 := ⟨_, rfl⟩
  have hb0 : Below w.heap.size w W0 := by rw [← hW0]; exact (Below.refl _ _).alloc (Nat.le_refl _) _
  have hq0 : W0.heap[w.heap.size]? = some (.cells #[.int .i64 L, .slice fa fl fc, .slice oa on oc] 25) := by rw [← hW0]; exact (MapKept.heap_alloc w _).1
  have HQ : Hid (Below w.heap.size w W0 ∧ W0.heap[w.heap.size]? = some (.cells #[.int .i64 L, .slice fa fl fc, .slice oa on oc] 25)) := ⟨hb0, hq0⟩
  clear hv hn hby hnm hsum hops hin hon hb0 hq0
  go_enter Try.func6, Try.ntmps6
  go_wp2_with fail
  refine (awake_any _).mono ?_
  rintro e w1 ⟨rfl, hb1⟩
  have HB1 : Hid (Below w.heap.size w w1) := HQ.out.1.trans (hb1.mono HQ.out.1.size)
  obtain ⟨s0, s1, s2⟩ := box3 ((hb1.block _ (Array.getElem?_eq_some_iff.1 HQ.out.2).1).trans HQ.out.2)
  clear hb1
  go_wp2_with fail
  refine (HP.out _ HB1.out).mono ?_
  rintro e w2 ⟨rfl, hb2⟩
  have HB2 : Hid (Below w.heap.size w w2) := HB1.out.trans (hb2.mono HB1.out.size)
  clear hb2
  go_wp2_with fail
  go_ret
  exact ⟨rfl, HB2.out⟩
set_option maxHeartbeats 2000000 in
theorem diskCrashes_good {w : World} (L : Int) {fa : Option Addr} {fl fc : Nat} {oa : Option Addr} {on oc : Nat} {vs : List Fi} {ops : List OpR} (hv : Rw fiV 3 w fa fl fc vs) (hn : fl ≤ 1048576) (hby : ∀ v ∈ vs, Rw byU 1 w v.a v.bs.length v.cap v.bs) (hnm : ∀ v ∈ vs, v.nm.length ≤ 9223372036854775807) (hsum : sumI vs ≤ 1048576) (hops : Rw opV 5 w oa on oc ops) (hin : ∀ o ∈ ops, OpIn w o) (hon : on ≤ 1048576) :
    Calls Try.prog 7 #[.agg #[.int .i64 L, .slice fa fl fc, .slice oa on oc]] w fun e w' => e = .returned (.bool true) ∧ Below w.heap.size w w' := by
  have HP : Hid (∀ W, Below w.heap.size w W → Calls Try.prog 20 #[.agg #[.int .i64 L, .slice fa fl fc, .slice oa on oc], .int .i64 8, .int .i64 11] W fun e w' => e = .returned (.bool true) ∧ Below W.heap.size W w') := fun W hb => played_all L (hv.below hb) hn (fun v hm => (hby v hm).below hb) hnm hsum (hops.below hb) (fun o ho => ⟨(hin o ho).row.below hb, (hin o ho).nm, (hin o ho).N, (hin o ho).M, (hin o ho).B⟩) hon 8 11
  obtain ⟨W0, hW0⟩ : ∃ W0, w.alloc (.cells #[.int .i64 L, .slice fa fl fc, .slice oa on oc] 25) = W0 := ⟨_, rfl⟩
  have hb0 : Below w.heap.size w W0 := by rw [← hW0]; exact (Below.refl _ _).alloc (Nat.le_refl _) _
  have hq0 : W0.heap[w.heap.size]? = some (.cells #[.int .i64 L, .slice fa fl fc, .slice oa on oc] 25) := by rw [← hW0]; exact (MapKept.heap_alloc w _).1
  have HQ : Hid (Below w.heap.size w W0 ∧ W0.heap[w.heap.size]? = some (.cells #[.int .i64 L, .slice fa fl fc, .slice oa on oc] 25)) := ⟨hb0, hq0⟩
  clear hv hn hby hnm hsum hops hin hon hb0 hq0
  go_enter Try.func7, Try.ntmps7
  go_wp2_with fail
  refine (awake_any _).mono ?_
  rintro e w1 ⟨rfl, hb1⟩
  have HB1 : Hid (Below w.heap.size w w1) := HQ.out.1.trans (hb1.mono HQ.out.1.size)
  obtain ⟨s0, s1, s2⟩ := box3 ((hb1.block _ (Array.getElem?_eq_some_iff.1 HQ.out.2).1).trans HQ.out.2)
  clear hb1
  go_wp2_with fail
  refine (HP.out _ HB1.out).mono ?_
  rintro e w2 ⟨rfl, hb2⟩
  have HB2 : Hid (Below w.heap.size w w2) := HB1.out.trans (hb2.mono HB1.out.size)
  clear hb2
  go_wp2_with fail
  go_ret
  exact ⟨rfl, HB2.out⟩
set_option maxHeartbeats 2000000 in
theorem diskAll_good {w : World} (L : Int) {fa : Option Addr} {fl fc : Nat} {oa : Option Addr} {on oc : Nat} {vs : List Fi} {ops : List OpR} (hv : Rw fiV 3 w fa fl fc vs) (hn : fl ≤ 1048576) (hby : ∀ v ∈ vs, Rw byU 1 w v.a v.bs.length v.cap v.bs) (hnm : ∀ v ∈ vs, v.nm.length ≤ 9223372036854775807) (hsum : sumI vs ≤ 1048576) (hops : Rw opV 5 w oa on oc ops) (hin : ∀ o ∈ ops, OpIn w o) (hon : on ≤ 1048576) :
    Calls Try.prog 8 #[.agg #[.int .i64 L, .slice fa fl fc, .slice oa on oc]] w fun e w' => e = .returned (.bool true) ∧ Below w.heap.size w w' := by
  have HP : Hid (∀ W, Below w.heap.size w W → Calls Try.prog 20 #[.agg #[.int .i64 L, .slice fa fl fc, .slice oa on oc], .int .i64 1, .int .i64 11] W fun e w' => e = .returned (.bool true) ∧ Below W.heap.size W w') := fun W hb => played_all L (hv.below hb) hn (fun v hm => (hby v hm).below hb) hnm hsum (hops.below hb) (fun o ho => ⟨(hin o ho).row.below hb, (hin o ho).nm, (hin o ho).N, (hin o ho).M, (hin o ho).B⟩) hon 1 11
  obtain ⟨W0, hW0⟩ : ∃ W0, w.alloc (.cells #[.int .i64 L, .slice fa fl fc, .slice oa on oc] 25) = W0 := ⟨_, rfl⟩
  have hb0 : Below w.heap.size w W0 := by rw [← hW0]; exact (Below.refl _ _).alloc (Nat.le_refl _) _
  have hq0 : W0.heap[w.heap.size]? = some (.cells #[.int .i64 L, .slice fa fl fc, .slice oa on oc] 25) := by rw [← hW0]; exact (MapKept.heap_alloc w _).1
  have HQ : Hid (Below w.heap.size w W0 ∧ W0.heap[w.heap.size]? = some (.cells #[.int .i64 L, .slice fa fl fc, .slice oa on oc] 25)) := ⟨hb0, hq0⟩
  clear hv hn hby hnm hsum hops hin hon hb0 hq0
  go_enter Try.func8, Try.ntmps8
  go_wp2_with fail
  refine (awake_any _).mono ?_
  rintro e w1 ⟨rfl, hb1⟩
  have HB1 : Hid (Below w.heap.size w w1) := HQ.out.1.trans (hb1.mono HQ.out.1.size)
  obtain ⟨s0, s1, s2⟩ := box3 ((hb1.block _ (Array.getElem?_eq_some_iff.1 HQ.out.2).1).trans HQ.out.2)
  clear hb1
  go_wp2_with fail
  refine (HP.out _ HB1.out).mono ?_
  rintro e w2 ⟨rfl, hb2⟩
  have HB2 : Hid (Below w.heap.size w w2) := HB1.out.trans (hb2.mono HB1.out.size)
  clear hb2
  go_wp2_with fail
  go_ret
  exact ⟨rfl, HB2.out⟩
end Go.Proofs.Ytfehgaioioejoaa
