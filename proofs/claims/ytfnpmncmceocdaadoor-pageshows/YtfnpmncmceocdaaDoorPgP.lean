import Derived.Test.YtfnpmncmceocdaaDoorPgL
import Derived.Shelf.Abstract
/-! Where a place stands: sort.Search, rowOf. -/
namespace Go.Proofs.YtfnpmncmceocdaaDoor
open Go.RowKit Go.Lib Go.Shelf
set_option maxRecDepth 100000

/-- Where a search ends: what is ahead says no, what is there says yes. -/
def Found (P : Nat → Bool) (n i : Nat) : Prop := i ≤ n ∧ (0 < i → P (i - 1) = false) ∧ (i < n → P i = true)
set_option maxHeartbeats 4000000 in
theorem search_any (k : Nat) (caps : Array Value) (n : Nat) (hn : n ≤ 4294967296) (P : Nat → Bool) (w : World) (hE : ∀ (args : Array Value) (w : World), (callFunc k args).run Tryd.prog w = .ok (.enter k args) w)
    (hC : ∀ h W, h < n → Below w.heap.size w W → Calls Tryd.prog k (#[.int .i64 (h : Int)] ++ caps) W fun e W' => e = .returned (.bool (P h)) ∧ Below W.heap.size W W') :
    Calls Tryd.prog 24 #[.int .i64 (n : Int), .func (.func k) #[] caps] w fun e w' => ∃ i : Nat, e = .returned (.int .i64 (i : Int)) ∧ Found P n i ∧ Below w.heap.size w w' := by
  go_enter Tryd.func24, Tryd.ntmps24
  go_wp2_with fail
  go_loopw [5, 6, 7] (fun v3 v4 _ W => ∃ i j : Nat, i ≤ j ∧ j ≤ n ∧ v3 = .int .i64 i ∧ v4 = .int .i64 j ∧ (0 < i → P (i - 1) = false) ∧ (j < n → P j = true) ∧ Below w.heap.size w W) (fun v3 v4 _ _ => (RowKit.intOf v4 - RowKit.intOf v3).toNat)
  case atStart => exact ⟨0, n, by omega, by omega, rfl, rfl, by omega, by omega, Below.refl _ _⟩
  case round =>
    obtain ⟨i, j, hij, hj, rfl, rfl, hi1, hj1, hB⟩ := hrel
    by_cases hlt : i < j
    · have b1 : decide ((i : Int) < (j : Int)) = true := decide_eq_true (by omega)
      obtain ⟨h, hh⟩ : ∃ h, (i + j) / 2 = h := ⟨_, rfl⟩
      have hhi : i ≤ h ∧ h < j := by omega
      have e1 : IntKind.i64.wrap ((i : Int) + (j : Int)) = (i : Int) + (j : Int) := IntWalk.i64_in _ (by omega)
      have e2 : IntKind.u64.wrap ((i : Int) + (j : Int)) = (i : Int) + (j : Int) := by rw [IntKind.wrap_u64]; omega
      have e3 : ((i : Int) + (j : Int)) / 2 = (h : Int) := by omega
      have e4 : IntKind.i64.wrap (h : Int) = (h : Int) := IntWalk.i64_in _ (by omega)
      have HCh := hC h wr (by omega) hB
      clear hC
      go_wp2_with fail
      refine HCh.mono ?_
      rintro e W1 ⟨rfl, hb1⟩
      clear HCh
      have hB1 : Below w.heap.size w W1 := hB.trans (hb1.mono hB.size)
      cases hp : P h with
      | true =>
        go_wp2_with fail
        exact ⟨⟨i, h, by omega, by omega, rfl, rfl, hi1, fun _ => hp, hB1⟩, by simp [RowKit.intOf]; omega⟩
      | false =>
        go_wp2_with fail
        exact ⟨⟨h + 1, j, by omega, by omega, by simp, rfl, fun _ => by simpa using hp, hj1, hB1⟩, by simp [RowKit.intOf]; omega⟩
    · have b1 : decide ((i : Int) < (j : Int)) = false := decide_eq_false (by omega)
      obtain rfl : i = j := by omega
      clear hC
      go_wp2_with fail
      go_ret
      exact ⟨i, rfl, ⟨hj, hi1, hj1⟩, hB⟩

/-- A laid out text in memory: its rows. -/
structure Sheet (rs : List Int) (W : Nat) (w : World) (a : Option Addr) (k cap : Nat) : Prop where
  rows : Rw r6V 6 w a k cap ((rowsP rs W).map (r6 rs))
  len : (rowsP rs W).length = k
  few : rs.length ≤ 4294967000
theorem Sheet.below {rs : List Int} {W : Nat} {w w' : World} {a : Option Addr} {k cap : Nat} (h : Sheet rs W w a k cap) (hb : Below w.heap.size w w') : Sheet rs W w' a k cap := ⟨h.rows.below hb, h.len, h.few⟩
/-- Row i, in memory. -/
theorem Sheet.at {rs : List Int} {W : Nat} {w : World} {a : Option Addr} {k cap : Nat} (h : Sheet rs W w a k cap) {i : Nat} (hi : i < k) : ∃ g off x, a = some ⟨g, off, none⟩ ∧ g < w.heap.size ∧ (rowsP rs W)[i]? = some x ∧ ∀ j v, (r6V (r6 rs x))[j]? = some v → w.cell? ⟨g, off + i * 6 + j, none⟩ = some v := by
  obtain ⟨g, off, y, ha, hg, hy, hc⟩ := h.rows.at i hi
  rw [List.getElem?_map] at hy
  have hil : i < (rowsP rs W).length := by rw [h.len]; exact hi
  have hx : (rowsP rs W)[i]? = some (rowsP rs W)[i] := List.getElem?_eq_getElem hil
  rw [hx] at hy
  obtain rfl := Option.some.inj hy
  exact ⟨g, off, _, ha, hg, hx, hc⟩
/-- Row i begins behind a place. -/
def behind (rs : List Int) (W : Nat) (at' : Int) (i : Nat) : Bool := match (rowsP rs W)[i]? with
  | some x => decide ((x.lo : Int) > at')
  | none => false
set_option maxHeartbeats 4000000 in
theorem rowOf1_any {rs : List Int} {W : Nat} {w : World} {a : Option Addr} {k cap : Nat} (h : Sheet rs W w a k cap) {s : ByteArray} {n at' : Int} {bs bp : Nat} (hs : w.heap[bs]? = some (.cells #[.string s, .int .i64 n, .slice a k cap] 48)) (hp : w.heap[bp]? = some (.cells #[.int .i64 at'] 3)) (i : Nat) (hi : i < k) :
    Calls Tryd.prog 25 #[.int .i64 (i : Int), .pointer (some ⟨bs, 0, none⟩), .pointer (some ⟨bp, 0, none⟩)] w fun e w' => e = .returned (.bool (behind rs W at' i)) ∧ Below w.heap.size w w' := by
  obtain ⟨g, off, x, rfl, hg, hx, hc⟩ := h.at hi
  have e : behind rs W at' i = decide ((x.lo : Int) > at') := by unfold behind; rw [hx]
  rw [e]
  have c0 := hc 0 _ rfl
  simp only [Nat.add_zero] at c0
  have k2 : w.cell? ⟨bs, 2, none⟩ = some (.slice (some ⟨g, off, none⟩) k cap) := by rw [Lib.cell_of_heap hs]; rfl
  have k0 : w.cell? ⟨bp, 0, none⟩ = some (.int .i64 at') := by rw [Lib.cell_of_heap hp]; rfl
  simp only [r6] at c0
  generalize (x.lo : Int) = lo at *
  clear h hc hx hs hp e
  go_enter Tryd.func25, Tryd.ntmps25
  go_wp2_with fail
  go_quiet (fail)
  go_wp2_with fail
  go_ret
  exact ⟨rfl, below_drewN (Below.refl _ _) _⟩
/-- The row in which a place stands: the last one that doesn't begin behind it. -/
structure Stands (rs : List Int) (W : Nat) (at' : Nat) (r : Nat) (lo hi : Nat) (hard : Bool) : Prop where
  get : (rowsP rs W)[r]? = some ⟨lo, hi, hard⟩
  le : lo ≤ at'
  next : ∀ x, (rowsP rs W)[r + 1]? = some x → at' < x.lo
theorem lo_next {rs : List Int} {W : Nat} {i : Nat} {x y : Rv} (hx : (rowsP rs W)[i]? = some x) (hy : (rowsP rs W)[i + 1]? = some y) : y.lo = nxt x ∧ x.lo < y.lo := by
  obtain ⟨hok, hch⟩ := rowsP_ok rs W
  have h1 := hch.lo (i + 1) y hy
  rw [posn_succ hx 0] at h1
  have hr := hok x (List.mem_of_getElem? hx)
  refine ⟨h1, ?_⟩
  rw [h1]
  unfold nxt
  have := hr.le
  cases hh : x.hard with
  | true => simp; omega
  | false => simp; exact (hr.soft hh).1
theorem lo_mono {rs : List Int} {W : Nat} : ∀ {d i : Nat} {x y : Rv}, (rowsP rs W)[i]? = some x → (rowsP rs W)[i + d]? = some y → 0 < d → x.lo < y.lo
  | d + 1, i, x, y, hx, hy, _ => by
    have hlt := (List.getElem?_eq_some_iff.1 hy).1
    obtain ⟨z, hm⟩ : ∃ z, (rowsP rs W)[i + d]? = some z := ⟨_, List.getElem?_eq_getElem (by omega)⟩
    have h1 := (lo_next hm hy).2
    rcases Nat.eq_zero_or_pos d with h0 | h0
    · subst h0
      rw [Nat.add_zero, hx] at hm
      rw [Option.some.inj hm]
      exact h1
    · exact Nat.lt_trans (lo_mono hx hm h0) h1
theorem Stands.unique {rs : List Int} {W at' r1 r2 lo1 hi1 lo2 hi2 : Nat} {d1 d2 : Bool} (h1 : Stands rs W at' r1 lo1 hi1 d1) (h2 : Stands rs W at' r2 lo2 hi2 d2) : r1 = r2 := by
  have key : ∀ {a b la ha lb hb : Nat} {da db : Bool}, Stands rs W at' a la ha da → Stands rs W at' b lb hb db → a < b → False := fun {a b la ha lb hb da db} ga gb hab => by
    have hlt := (List.getElem?_eq_some_iff.1 gb.get).1
    obtain ⟨z, hm⟩ : ∃ z, (rowsP rs W)[a + 1]? = some z := ⟨_, List.getElem?_eq_getElem (by omega)⟩
    have k1 := ga.next _ hm
    have k2 := gb.le
    rcases Nat.eq_or_lt_of_le (show a + 1 ≤ b by omega) with h | h
    · have := gb.get
      rw [← h, hm] at this
      rw [Option.some.inj this] at k1
      have k1 : at' < lb := k1
      omega
    · have h3 := lo_mono (d := b - (a + 1)) hm (by rw [show a + 1 + (b - (a + 1)) = b by omega]; exact gb.get) (by omega)
      have h3 : _ < lb := h3
      omega
  rcases Nat.lt_trichotomy r1 r2 with h | h | h
  · exact (key h1 h2 h).elim
  · exact h
  · exact (key h2 h1 h).elim
theorem found_stands {rs : List Int} {W at' i : Nat} (h : Found (behind rs W (at' : Int)) (rowsP rs W).length i) : 0 < i ∧ ∃ lo hi hard, Stands rs W at' (i - 1) lo hi hard := by
  obtain ⟨h1, h2, h3⟩ := h
  have hne : 0 < (rowsP rs W).length := List.length_pos_iff.2 (rowsP_ne rs W)
  have h0 : 0 < i := by
    rcases Nat.eq_zero_or_pos i with h | h
    · subst h
      have h4 := h3 hne
      have hx : (rowsP rs W)[0]? = some ((rowsP rs W)[0]'hne) := List.getElem?_eq_getElem hne
      have h5 := (rowsP_ok rs W).2.lo 0 _ hx
      unfold behind at h4
      rw [hx] at h4
      simp only [decide_eq_true_eq] at h4
      have h5 : ((rowsP rs W)[0]'hne).lo = 0 := h5
      omega
    · exact h
  obtain ⟨z, hx⟩ : ∃ z, (rowsP rs W)[i - 1]? = some z := ⟨_, List.getElem?_eq_getElem (by omega)⟩
  refine ⟨h0, z.lo, z.hi, z.hard, hx, ?_, fun y hy => ?_⟩
  · have h4 := h2 h0
    unfold behind at h4
    rw [hx] at h4
    simp only [decide_eq_false_iff_not] at h4
    omega
  · rw [show i - 1 + 1 = i by omega] at hy
    have h4 := h3 (List.getElem?_eq_some_iff.1 hy).1
    unfold behind at h4
    rw [hy] at h4
    simp only [decide_eq_true_eq] at h4
    omega
set_option maxHeartbeats 4000000 in
theorem rowOf_any {rs : List Int} {W : Nat} {w : World} {a : Option Addr} {k cap : Nat} (h : Sheet rs W w a k cap) (s : ByteArray) (n : Int) (at' : Nat) :
    Calls Tryd.prog 16 #[.agg #[.string s, .int .i64 n, .slice a k cap], .int .i64 (at' : Int)] w fun e w' => ∃ r lo hi hard, e = .returned (.int .i64 (r : Nat)) ∧ Stands rs W at' r lo hi hard ∧ Below w.heap.size w w' := by
  have hkb : k ≤ 4294967296 := by have := rowsP_few rs W; have := h.len; have := h.few; omega
  obtain ⟨wa, ewa⟩ : ∃ V, (w.alloc (.cells #[.string s, .int .i64 n, .slice a k cap] 48)).alloc (.cells #[.int .i64 (at' : Int)] 3) = V := ⟨_, rfl⟩
  have hba : Below w.heap.size w wa := ewa ▸ (((Below.refl _ w).alloc (Nat.le_refl _) _).alloc (by simp) _)
  have h0 : wa.heap[w.heap.size]? = some (.cells #[.string s, .int .i64 n, .slice a k cap] 48) := by
    rw [← ewa]
    simp only [World.alloc, Array.getElem?_push, Array.size_push]
    rw [if_neg (by omega), if_pos trivial]
  have h1 : wa.heap[w.heap.size + 1]? = some (.cells #[.int .i64 (at' : Int)] 3) := by rw [← ewa]; simp only [World.alloc, Array.getElem?_push, Array.size_push]; simp
  have hmf : ∀ (fn : Fn) (first cap : Array Value) (w : World), (Instr.makeFunc fn first cap).run Tryd.prog w = .ok (.func fn first cap) w := fun _ _ _ _ => rfl
  have bx : ∀ {V : World} {b : Nat} {T : TypeId} {cs : Array Value}, wa.heap[b]? = some (.cells cs T) → Below wa.heap.size wa V → V.heap[b]? = some (.cells cs T) := fun hb hV => (hV.block _ (Array.getElem?_eq_some_iff.1 hb).1).trans hb
  have T1 : Calls Tryd.prog 24 #[.int .i64 (k : Int), .func (.func 25) #[] #[.pointer (some ⟨w.heap.size, 0, none⟩), .pointer (some ⟨w.heap.size + 1, 0, none⟩)]] wa fun e w' => ∃ i : Nat, e = .returned (.int .i64 (i : Int)) ∧ Found (behind rs W (at' : Int)) k i ∧ Below wa.heap.size wa w' :=
    search_any _ _ k hkb _ wa (enters_of Tryd.func25 (by kernel_rfl) rfl) (fun j X hj hX => rowOf1_any ((h.below hba).below hX) (bx h0 hX) (bx h1 hX) j hj)
  obtain ⟨c0, c1, c2⟩ := box3 h0
  have HX : Hid (Below w.heap.size w wa ∧ (rowsP rs W).length = k) := ⟨hba, h.len⟩
  clear bx h h0 h1 hba
  go_enter Tryd.func16, Tryd.ntmps16
  go_wp2_with fail
  refine T1.mono ?_
  rintro e w1 ⟨i, rfl, hi1, hb1⟩
  rw [← HX.out.2] at hi1
  obtain ⟨hi0, lo, hi, hard, hst⟩ := found_stands hi1
  have hik := hi1.1
  rw [HX.out.2] at hik
  have HN : Hid (Stands rs W at' (i - 1) lo hi hard ∧ Below w.heap.size w w1) := ⟨hst, HX.out.1.trans (hb1.mono HX.out.1.size)⟩
  have hw : IntKind.i64.wrap ((i : Int) - 1) = ((i - 1 : Nat) : Int) := by rw [IntWalk.i64_in _ (by omega)]; omega
  generalize i - 1 = r at *
  clear T1 hi1 hst hb1 hi0
  go_wp2_with fail
  go_ret
  exact ⟨r, lo, hi, hard, rfl, HN.out⟩
end Go.Proofs.YtfnpmncmceocdaaDoor
