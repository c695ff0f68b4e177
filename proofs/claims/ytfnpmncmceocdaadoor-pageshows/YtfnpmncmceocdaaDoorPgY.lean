import Derived.Test.YtfnpmncmceocdaaDoorPgT
/-! Top, where it takes the call. -/
namespace Go.Proofs.YtfnpmncmceocdaaDoor
open Go.RowKit Go.Lib Go.Shelf
set_option maxRecDepth 100000

/-- The first row that a page shows. -/
def topR (r old H : Int) : Int := if r < old then r else if old + H ≤ r then r - H + 1 else old
def TopP (rs : List Int) (W at' : Nat) (old H q : Int) : Prop := ∃ r lo hi hard, Stands rs W at' r lo hi hard ∧ q = topR r old H
set_option maxHeartbeats 8000000 in
theorem Top_ok {s : ByteArray} {rs : List Int} (ht : IsText s rs) (W H : Nat) (hW : 1 ≤ W ∧ W ≤ 1024) (hH : 1 ≤ H ∧ H ≤ 1024) (hn : rs.length ≤ 4294967000) {w : World} (hP : PTab w) (hG : Glob w.heap.size) (old : Int) (ho : 0 ≤ old ∧ old ≤ 9223372036854774000) (at' : Nat) (hat : at' ≤ rs.length) :
    Calls Tryd.prog 8 #[.string s, .int .i64 (W : Int), .int .i64 (H : Int), .int .i64 old, .int .i64 (at' : Int)] w fun e w' => ∃ q : Int, e = .returned (.tuple #[.int .i64 q, .int .i64 0]) ∧ TopP rs W at' old H q ∧ Below w.heap.size w w' := by
  have HLa := lay_sheet ht W H hW hH hn hP hG
  have HAt : Hid (at' ≤ rs.length ∧ rs.length ≤ 4294967000) := ⟨hat, hn⟩
  have d0 : decide (old < 0) = false := decide_eq_false (by omega)
  clear ht hW hP hG hn hat
  go_enter Tryd.func8, Tryd.ntmps8
  go_wp2_with fail
  refine HLa.mono ?_
  rintro e w1 ⟨a, k, cap, rfl, hsh, hb1⟩
  obtain ⟨m, hm⟩ : ∃ m, rs.length = m := ⟨_, rfl⟩
  rw [hm]
  obtain ⟨w2, hw2⟩ : ∃ V, w1.alloc (.cells #[.string s, .int .i64 (m : Int), .slice a k cap] 48) = V := ⟨_, rfl⟩
  have hb2 : Below w1.heap.size w1 w2 := by rw [← hw2]; exact (Below.refl _ _).alloc (Nat.le_refl _) _
  have hx2 : w2.heap[w1.heap.size]? = some (.cells #[.string s, .int .i64 (m : Int), .slice a k cap] 48) := by rw [← hw2]; exact heap_alloc_new _ _
  have hbw2 := hb1.trans (hb2.mono hb1.size)
  have hsh2 := hsh.below hb2
  obtain ⟨c0, c1, c2⟩ := box3 hx2
  have hha := has_any s m a k cap (at' : Int) w2
  rw [show decide (0 ≤ (at' : Int) ∧ (at' : Int) ≤ (m : Int)) = true from decide_eq_true ⟨by omega, by have := HAt.out; omega⟩] at hha
  have HKf : Hid ((rowsP rs W).length ≤ rs.length + 1) := rowsP_few rs W
  clear hm hsh hb1 hb2 HLa
  go_wp2_with fail
  refine hha.mono ?_
  rintro e w3 ⟨rfl, hb3⟩
  obtain ⟨e0, e1, e2⟩ := box3 ((hb3.block _ (Array.getElem?_eq_some_iff.1 hx2).1).trans hx2)
  have hbw3 := hbw2.trans (hb3.mono hbw2.size)
  have HRo := rowOf_any (hsh2.below hb3) s m at'
  have HB3 : Hid (Below w.heap.size w w3) := hbw3
  clear hha hb3 hx2 hsh2 hbw2 hbw3 c0 c1 c2 hw2
  go_wp2_with fail
  refine HRo.mono ?_
  rintro e w4 ⟨r, lo, hi, hard, rfl, hst, hb4⟩
  have hrb : r ≤ 4294967001 := by have := (List.getElem?_eq_some_iff.1 hst.get).1; have := HKf.out; have := HAt.out.2; omega
  have HN : Hid (Below w.heap.size w w4) := HB3.out.trans (hb4.mono HB3.out.size)
  have HQ : Hid (∀ q, q = topR r old H → TopP rs W at' old H q) := fun q hq => ⟨r, lo, hi, hard, hst, hq⟩
  clear HRo hst hb4 e0 e1 e2
  by_cases h1 : (r : Int) < old
  · have z1 : decide ((r : Int) < old) = true := decide_eq_true h1
    have HT : Hid (TopP rs W at' old H r) := HQ.out _ (by unfold topR; rw [if_pos h1])
    clear HQ
    go_wp2_with fail
    refine bodyPost_ret (v := .tuple #[.int .i64 (r : Int), .int .i64 0]) (by simp [results, Tryd.results8, go_sem]) rfl ?_
    exact ⟨_, rfl, HT.out, HN.out⟩
  · have z1 : decide ((r : Int) < old) = false := decide_eq_false h1
    have y1 : IntKind.i64.wrap (old + (H : Int)) = old + H := IntWalk.i64_in _ (by omega)
    by_cases h2 : old + (H : Int) ≤ r
    · have z2 : decide ((r : Int) ≥ old + H) = true := decide_eq_true h2
      have y2 : IntKind.i64.wrap ((r : Int) - H) = (r : Int) - H := IntWalk.i64_in _ (by omega)
      have y3 : IntKind.i64.wrap ((r : Int) - H + 1) = (r : Int) - H + 1 := IntWalk.i64_in _ (by omega)
      have HT : Hid (TopP rs W at' old H ((r : Int) - H + 1)) := HQ.out _ (by unfold topR; rw [if_neg h1, if_pos h2])
      clear HQ
      go_wp2_with fail
      refine bodyPost_ret (v := .tuple #[.int .i64 ((r : Int) - H + 1), .int .i64 0]) (by simp [results, Tryd.results8, go_sem]) rfl ?_
      exact ⟨_, rfl, HT.out, HN.out⟩
    · have z2 : decide ((r : Int) ≥ old + H) = false := decide_eq_false h2
      have HT : Hid (TopP rs W at' old H old) := HQ.out _ (by unfold topR; rw [if_neg h1, if_neg h2])
      clear HQ
      go_wp2_with fail
      refine bodyPost_ret (v := .tuple #[.int .i64 old, .int .i64 0]) (by simp [results, Tryd.results8, go_sem]) rfl ?_
      exact ⟨_, rfl, HT.out, HN.out⟩
end Go.Proofs.YtfnpmncmceocdaaDoor
