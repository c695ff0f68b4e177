import Derived.Test.YtjcfeaekhefpfaaDaL
import Derived.Lib.SliceRun
/-! The sort of files; bytes.Clone. -/
namespace Go.Proofs.Ytjcfeaekhefpfaa
open Go.RowKit Go.Lib Go.Sort Go.Shelf
set_option maxRecDepth 100000

theorem chg_sortWorldK {blk off m : Nat} {w : World} {dk : Array Fv} {os : Array Obj} : Chg (fun q => q = blk) w (sortWorldK fvV 3 w blk off m dk os) := by
  refine ⟨⟨rfl, rfl, rfl, size_sortWorldK_c _ _ _ _ _ _ _ _, fun k hk => absurd hk (Nat.not_lt_zero _)⟩, fun g hg hne => ?_⟩
  unfold sortWorldK grow putRowK putRow mapBlock Sort.ahead
  simp only
  rw [Array.getElem?_append_left (by simp; omega), Array.getElem?_modify, if_neg (fun e => hne e.symm)]
theorem own_sortWorldK {blk off m : Nat} {w : World} {dk : Array Fv} {os : Array Obj} {cur : Array Value} {T : TypeId} (h : w.heap[blk]? = some (.cells cur T)) : ∃ cs, (sortWorldK fvV 3 w blk off m dk os).heap[blk]? = some (.cells cs T) := by
  have hlt := (Array.getElem?_eq_some_iff.1 h).1
  unfold sortWorldK grow putRowK putRow mapBlock Sort.ahead
  simp only
  rw [Array.getElem?_append_left (by simp; omega), Array.getElem?_modify, if_pos rfl]
  rw [h]
  exact ⟨_, rfl⟩
theorem sortFv {w : World} {B g n cap : Nat} {l : List Fv} (h : OwnF fvV 3 39 w B (.slice (some ⟨g, 0, none⟩) n cap) l) (hn : n ≤ 4398046511104) :
    Calls Try.prog 29 #[.slice (some ⟨g, 0, none⟩) n cap, .func (.func 30) #[] #[]] w fun e w' => e = .returned (.tuple #[]) ∧ ∃ k : List Fv, k.Perm l ∧ Rises k ∧ Rw fvV 3 w' (some ⟨g, 0, none⟩) n n k ∧ Chg (fun q => q = g) w w' ∧ ∃ cs, w'.heap[g]? = some (.cells cs 39) := by
  have hlen := (h.rw_ layFv).len
  have hg : g < w.heap.size := h.lt rfl
  have eg : ∀ args w, (callFunc 30 args).run Try.prog w = .ok (.enter 30 args) w := enters_of Try.func30 (by kernel_rfl) rfl
  have hH := holdsK_ofF h
  have hcon := AnyQ.slices_SortFunc Try.sortRange 3 Try.isAgg39 Try.sizeOf39 fvV (fun _ => rfl) (fun x v hv => layFv.one x v hv) cmpFv swoFv 30 #[] g 0 cap l.toArray w eg (fun _ _ _ _ x y => closureFv x y _) hH hg (by simp; omega)
  have hsz : l.toArray.size = n := by simpa using hlen
  rw [hsz] at hcon
  refine Calls.mono hcon ?_
  rintro e w' ⟨he, d', m, os, hp, hs, rfl⟩
  obtain ⟨hp1, _, hp3⟩ := hp
  refine ⟨he, d'.toList, ?_, ?_, rw_of_holdsK (holdsK_sortWorldK_c _ _ _ _ _ l.toArray d' m os hH hg hp1) (Nat.lt_of_lt_of_le hg (size_sortWorldK_c _ _ _ _ _ _ _ _)) (hp1.trans hsz) (by simp only [maxLen]; omega), chg_sortWorldK, ?_⟩
  · have e1 : (d'.extract 0 n).toList = d'.toList := by rw [← hsz, ← hp1]; simp
    have e2 : (l.toArray.extract 0 n).toList = l := by rw [← hsz]; simp
    rw [e1, e2] at hp3
    exact hp3
  · refine List.pairwise_iff_getElem.2 fun i j hi hj hij => ?_
    have := hs i j (Nat.zero_le _) hij (by rw [← hsz, ← hp1]; simpa using hj)
    rw [ltFv, getElem!_pos d' i (by simpa using hi), getElem!_pos d' j (by simpa using hj)] at this
    simp only [decide_eq_false_iff_not] at this
    simpa using this
  · rcases h.2 with ⟨e, _⟩ | ⟨g1, cap1, cur, e, _, hh, _⟩
    · cases e
    · simp only [Value.slice.injEq, Option.some.injEq, Addr.mk.injEq, and_true] at e
      obtain ⟨rfl, _, _⟩ := e
      exact own_sortWorldK hh
theorem own_block0 {α : Type} {f : α → List Value} {k : Nat} (w : World) (T : TypeId) : OwnF f k T (w.alloc (.cells #[] T)) w.heap.size (.slice (some ⟨w.heap.size, 0, none⟩) 0 0) ([] : List α) :=
  ⟨by simp [flatF], .inr ⟨w.heap.size, 0, #[], rfl, Nat.le_refl _, (MapKept.heap_alloc w _).1, Nat.le_refl _, Nat.zero_le _, by simp, by simp [flatF]⟩⟩
set_option maxHeartbeats 1000000 in
theorem cloneU {w : World} {a : Option Addr} {n cap : Nat} {l : List UInt8} (h : Rw byU 1 w a n cap l) (hl : n ≤ 1099511627776) :
    Calls Try.prog 27 #[.slice a n cap] w fun e w' => ∃ a' cap', e = .returned (.slice a' n cap') ∧ OwnF byU 1 5 w' w.heap.size (.slice a' n cap') l ∧ Below w.heap.size w w' := by
  have hlen := h.len
  cases a with
  | none =>
    have h0 : n = 0 := by
      by_cases h0 : 0 < n
      · obtain ⟨g, off, e, _⟩ := h.cells h0
        cases e
      · omega
    subst h0
    have hl0 : l = [] := List.length_eq_zero_iff.1 hlen
    have HL : Hid (l = []) := hl0
    have hq := fun w => Lib.run_eql_slice_nil (P := Try.prog) w 22 5 none 0 cap 0 0 Try.underlying22
    simp only [Option.isNone_none] at hq
    clear h hlen hl0 hl
    go_enter Try.func27, Try.ntmps27
    go_wp2_with fail
    go_ret
    rw [HL.out]
    exact ⟨none, 0, rfl, ownF_nil _ _, Below.refl _ _⟩
  | some q =>
    have HH : Hid (Rw byU 1 w (some q) n cap l ∧ n ≤ 1099511627776 ∧ l.length = n) := ⟨h, hl, hlen⟩
    have hq := fun w => Lib.run_eql_slice_nil (P := Try.prog) w 22 5 (some q) n cap 0 0 Try.underlying22
    simp only [Option.isNone_some] at hq
    have hbY : Below w.heap.size w (w.alloc (.cells #[] 5)) := (Below.refl _ _).alloc (Nat.le_refl _) _
    obtain ⟨a7, cap7, w7, hr7, ho7, hb7, _⟩ := appendU kindU layU (own_block0 w 5) (by rw [World.size_alloc]; omega) (h.below hbY) (by simp; omega) (by simp; omega) 22
    simp only [List.length_nil, Nat.zero_add, List.nil_append] at hr7 ho7
    have HX : Hid (OwnF byU 1 5 w7 w.heap.size (.slice a7 n cap7) l ∧ Below w.heap.size w w7) := ⟨ho7, hbY.trans hb7⟩
    clear h hlen hl hbY ho7 hb7
    go_enter Try.func27, Try.ntmps27
    go_wp2_with (at_builtin; refine wpList_append_hr rfl _ _ 22 rfl _ _ rfl rfl hr7 ?_)
    go_ret
    exact ⟨a7, cap7, rfl, HX.out⟩
end Go.Proofs.Ytjcfeaekhefpfaa
