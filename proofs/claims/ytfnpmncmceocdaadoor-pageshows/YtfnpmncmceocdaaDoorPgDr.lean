import Derived.Test.YtfnpmncmceocdaaDoorPgS
import Derived.Test.YtfnpmncmceocdaaDoorPgRu
import Derived.Test.YtfnpmncmceocdaaDoorPgZ
import Derived.Test.YtfnpmncmceocdaaDoorPgZ2
/-! A row drawn. -/
namespace Go.Proofs.YtfnpmncmceocdaaDoor
open Go.RowKit Go.Lib Go.Shelf
set_option maxRecDepth 100000

/-- The bytes of a character in a column. -/
def chB (r : Int) (c : Nat) : List UInt8 := if r = 9 then List.replicate (colN r c) 32 else encB r
/-- The bytes of a row's first j characters, the caret among them. -/
def drawL (rs : List Int) (lo : Nat) (car : Int) : Nat → List UInt8
  | 0 => []
  | j + 1 => drawL rs lo car j ++ (if ((lo + j : Nat) : Int) = car then [124] else []) ++ chB (rs.getD (lo + j) 0) (wd rs lo (lo + j))
/-- The caret, where it stands in this row. -/
def carR (lo hi : Nat) (hard : Bool) (car : Int) : Int := if (lo : Int) ≤ car ∧ car ≤ lastP hi hard then car else -1
def drawnB (rs : List Int) (lo hi : Nat) (hard : Bool) (car : Int) : List UInt8 :=
  trimB (drawL rs lo (carR lo hi hard car) (hi - lo) ++ (if (hi : Int) = carR lo hi hard car then [124] else []))
theorem encB_len (r : Int) : (encB r).length ≤ 4 := by
  rw [encB_is, ← size_data]
  exact encode_size_le _
theorem chB_len (r : Int) (c : Nat) : (chB r c).length ≤ 4 := by
  unfold chB
  split
  · rw [List.length_replicate]; exact colN_le r c
  · exact encB_len r
theorem drawL_len (rs : List Int) (lo : Nat) (car : Int) : ∀ j, (drawL rs lo car j).length ≤ 5 * j
  | 0 => Nat.le_refl _
  | j + 1 => by
    have h1 := drawL_len rs lo car j
    have h2 := chB_len (rs.getD (lo + j) 0) (wd rs lo (lo + j))
    unfold drawL
    rw [List.length_append, List.length_append]
    split <;> simp only [List.length_cons, List.length_nil] <;> omega
theorem strCells_bytes (l : List UInt8) : Lib.strCells ⟨l.toArray⟩ = Lib.byteCells l := rfl
/-- A builder kept. -/
theorem builder_keep {T e : TypeId} {B b : Nat} {bs : List Value} {w w' : World} (h : Lib.IsBuilderF T e B b bs w) (hb : Below w.heap.size w w') : Lib.IsBuilderF T e B b bs w' := by
  have key : ∀ p, Lib.BuilderAtF T e B b p bs w → Lib.BuilderAtF T e B b p bs w' := by
    rintro p ⟨hB, v, hbk, ⟨hl, hr⟩, hne⟩
    refine ⟨hB, v, (hb.block b (Array.getElem?_eq_some_iff.1 hbk).1).trans hbk, ⟨hl, ?_⟩, hne⟩
    rcases hr with h0 | ⟨g, cap, cur, fz, hv, hg, hh, rest⟩
    · exact .inl h0
    · exact .inr ⟨g, cap, cur, fz, hv, hg, (hb.block g (Array.getElem?_eq_some_iff.1 hh).1).trans hh, rest⟩
  rcases h with h | h
  · exact .inl (key _ h)
  · exact .inr (key _ h)

theorem rep_size (n : Nat) (b : UInt8) : (⟨(List.replicate n b).toArray⟩ : ByteArray).size = n := by
  rw [size_data]
  simp
theorem rep_size2 (n : Nat) (b : UInt8) : (⟨Array.replicate n b⟩ : ByteArray).size = n := by
  show (Array.replicate n b).size = n
  simp
/-- A blank repeated. -/
theorem repeat_any {n : Nat} (h1 : 1 ≤ n) (h4 : n ≤ 4) (w : World) : Calls Tryd.prog 29 #[.string ⟨#[32]⟩, .int .i64 (n : Int)] w fun e w' => e = .returned (.string ⟨(List.replicate n (32 : UInt8)).toArray⟩) ∧ Below w.heap.size w w' := by
  match n, h1, h4 with
  | 1, _, _ => exact repeat1 w
  | 2, _, _ => exact repeat2 w
  | 3, _, _ => exact repeat3 w
  | 4, _, _ => exact repeat4 w
set_option maxHeartbeats 64000000 in
theorem drawn_any {s : ByteArray} {rs : List Int} (ht : IsText s rs) {W : Nat} {w : World} {a : Option Addr} {k cap : Nat} (h : Sheet rs W w a k cap) (hP : PTab w) (n : Int) {r lo hi : Nat} {hard : Bool} (hr : (rowsP rs W)[r]? = some ⟨lo, hi, hard⟩) (car : Int) (hc : car = -1 ∨ ∃ at' : Nat, at' ≤ rs.length ∧ car = at') :
    Calls Tryd.prog 19 #[.agg #[.string s, .int .i64 n, .slice a k cap], .int .i64 (r : Int), .int .i64 car] w fun e w' => e = .returned (.string ⟨(drawnB rs lo hi hard car).toArray⟩) ∧ Below w.heap.size w w' := by
  obtain ⟨hle, hhi, hh, -⟩ := rowP_ok hr
  have hex := ht.extract lo hi hle
  have hsm := ht.size
  have hft := posOf_mono rs hle
  have hts : posOf rs hi ≤ s.size := by rw [hsm]; exact posOf_mono rs hhi
  have hfew := h.few
  have hln : ((rs.take hi).drop lo).length = hi - lo := by rw [List.length_drop, List.length_take]; omega
  have HC : Hid (∀ j, j < hi - lo → ∃ r, ((rs.take hi).drop lo)[j]? = some r ∧ Utf8.valid r = true ∧ rs.getD (lo + j) 0 = r ∧ (∀ V, Below w.heap.size w V → Calls Tryd.prog 11 #[.int .i32 r, .int .i64 (wd rs lo (lo + j) : Nat)] V (fun e w' => e = .returned (.int .i64 (colN r (wd rs lo (lo + j)) : Nat)) ∧ Below V.heap.size V w')) ∧ wd rs lo (lo + (j + 1)) = wd rs lo (lo + j) + colN r (wd rs lo (lo + j))) := fun j hj => by
    have hr : rs[lo + j]? = some rs[lo + j] := List.getElem?_eq_getElem (by omega)
    refine ⟨rs[lo + j], ?_, (ht.okAt (lo + j) (by omega)).1, ?_, ?_, ?_⟩
    · rw [List.getElem?_drop, List.getElem?_take, if_pos (by omega), hr]
    · rw [List.getD_eq_getElem?_getD, hr]; rfl
    · intro V hV
      have := Cols_any (hP.below hV) rs[lo + j] (wd rs lo (lo + j) : Nat)
      rw [show (max ((wd rs lo (lo + j) : Nat) : Int) 0).toNat = wd rs lo (lo + j) by omega] at this
      exact this
    · have h1 : lo + j < rs.length := by omega
      exact wd_succ rs (Nat.le_add_right _ _) h1
  obtain ⟨g, off, rfl, hrk, -⟩ := h.cells hr
  obtain ⟨f, hf⟩ : ∃ f, posOf rs lo = f := ⟨_, rfl⟩
  obtain ⟨t, htt⟩ : ∃ t, posOf rs hi = t := ⟨_, rfl⟩
  obtain ⟨cc, hcc⟩ : ∃ c : Int, ((wd rs lo hi : Nat) : Int) = c := ⟨_, rfl⟩
  rw [hf, htt] at hft hex
  rw [htt] at hts
  obtain ⟨S, hS⟩ : ∃ S, s.extract f t = S := ⟨_, rfl⟩
  rw [hS] at hex
  have HCell : Hid (∀ V, Below w.heap.size w V → V.cell? ⟨g, off + r * 6, none⟩ = some (.int .i64 (lo : Int)) ∧ V.cell? ⟨g, off + r * 6 + 1, none⟩ = some (.int .i64 (hi : Int)) ∧ V.cell? ⟨g, off + r * 6 + 2, none⟩ = some (.int .i64 cc) ∧ V.cell? ⟨g, off + r * 6 + 3, none⟩ = some (.bool hard) ∧ V.cell? ⟨g, off + r * 6 + 4, none⟩ = some (.int .i64 (f : Int)) ∧ V.cell? ⟨g, off + r * 6 + 5, none⟩ = some (.int .i64 (t : Int))) := fun V hV => by
    have h1 := h.below hV
    obtain ⟨g', off', ea, -, e0, e1, e2, e3, e4, e5⟩ := h1.cells hr
    simp only [Option.some.injEq, Addr.mk.injEq, and_true] at ea
    obtain ⟨rfl, rfl⟩ := ea
    rw [hcc] at e2
    rw [hf] at e4
    rw [htt] at e5
    exact ⟨e0, e1, e2, e3, e4, e5⟩
  have hRo : Hid (∀ V, Below w.heap.size w V → ∀ at' : Nat, Calls Tryd.prog 16 #[.agg #[.string s, .int .i64 n, .slice (some ⟨g, off, none⟩) k cap], .int .i64 (at' : Int)] V fun e w' => ∃ r lo hi hard, e = .returned (.int .i64 (r : Nat)) ∧ Stands rs W at' r lo hi hard ∧ Below V.heap.size V w') := fun V hV at' => rowOf_any (h.below hV) s n at'
  obtain ⟨V0, hV0⟩ : ∃ V, w.alloc (.cells #[.string s, .int .i64 n, .slice (some ⟨g, off, none⟩) k cap] 48) = V := ⟨_, rfl⟩
  have hbV : Below w.heap.size w V0 := by rw [← hV0]; exact (Below.refl _ _).alloc (Nat.le_refl _) _
  have hxV : V0.heap[w.heap.size]? = some (.cells #[.string s, .int .i64 n, .slice (some ⟨g, off, none⟩) k cap] 48) := by rw [← hV0]; exact heap_alloc_new _ _
  clear h hP ht hsm hcc hf htt
  by_cases hcar : car = -1
  · have HD : Hid (drawnB rs lo hi hard car = trimB (drawL rs lo car (hi - lo) ++ (if (hi : Int) = car then [124] else []))) := by
      show _ = _
      have e : carR lo hi hard car = car := by
        unfold carR
        split
        · rfl
        · exact hcar.symm
      unfold drawnB
      rw [e]
    clear hRo hr hc
    have hxV0 := hxV
    have hbV0 := hbV
    obtain ⟨bx, hbx⟩ : ∃ bx, V0.heap.size = bx := ⟨_, rfl⟩
    obtain ⟨w1, hw1⟩ : ∃ V, V0.alloc (.cells #[.pointer none, .slice none 0 0] 64) = V := ⟨_, rfl⟩
    have hb01 : Below V0.heap.size V0 w1 := by rw [← hw1]; exact (Below.refl _ _).alloc (Nat.le_refl _) _
    have hb1 : Below w.heap.size w w1 := hbV0.trans (hb01.mono hbV0.size)
    obtain ⟨rx, hs1⟩ : ∃ rx, w1.heap.size = rx := ⟨_, rfl⟩
    have hrx : rx = bx + 1 := by rw [← hs1, ← hw1, ← hbx]; simp
    have hwb : w.heap.size < bx := by rw [← hbx]; exact (Array.getElem?_eq_some_iff.1 hxV0).1
    have hx1 := (hb01.block _ (Array.getElem?_eq_some_iff.1 hxV0).1).trans hxV0
    obtain ⟨e0, e1, e2, e3, e4, e5⟩ := HCell.out w1 hb1
    obtain ⟨c0, c1, c2⟩ := box3 hx1
    obtain ⟨it, hit0⟩ : ∃ it, rx + 1 = it := ⟨_, rfl⟩
    have hF : Lib.IsBuilderF 64 5 bx bx (Lib.byteCells []) w1 := by
      have := Lib.IsBuilderF.of (Lib.fresh_isBuilder 64 5 V0)
      rw [hbx] at this
      rw [← hw1]
      exact this
    obtain ⟨W2, hW2⟩ : ∃ V, (w1.alloc (.cells #[.int .i64 (lo : Int), .int .i64 (hi : Int), .int .i64 cc, .bool hard, .int .i64 (f : Int), .int .i64 (t : Int)] 56)).iter S 0 = V := ⟨_, rfl⟩
    have HI0 : Hid (Lib.IsBuilderF 64 5 bx bx (Lib.byteCells []) W2 ∧ W2.heap[it]? = some (.stringIter S 0) ∧ Below w.heap.size w W2) := by
      rw [← hW2]
      refine ⟨(hF.alloc _).alloc _, ?_, (hb1.alloc (by omega) _).alloc (by simp; omega) _⟩
      have := World.iter_heap (w1.alloc (.cells #[.int .i64 (lo : Int), .int .i64 (hi : Int), .int .i64 cc, .bool hard, .int .i64 (f : Int), .int .i64 (t : Int)] 56)) S 0
      rw [show (w1.alloc (.cells #[.int .i64 (lo : Int), .int .i64 (hi : Int), .int .i64 cc, .bool hard, .int .i64 (f : Int), .int .i64 (t : Int)] 56)).heap.size = it by rw [← hit0, ← hs1]; simp] at this
      exact this
    clear hb01 hb1 hF
    have HRx : Hid (rx = bx + 1) := hrx
    have hwr : w.heap.size < rx := by omega
    have hwn : (w.heap.size == rx) = false := beq_eq_false_iff_ne.2 (by omega)
    have hwm : w.heap.size ≠ rx := by omega
    clear hrx
    go_enter Tryd.func19, Tryd.ntmps19
    have z1 : (car == -1) = true := beq_iff_eq.2 hcar
    have z2 : (car != -1) = false := by rw [hcar]; rfl
    clear hcar
    go_wp2_with fail
    try rw [hS]
    try rw [hit0]
    try rw [hbx]
    try rw [hW2]
    have hbi : bx < it := by have := HRx.out; omega
    clear HRx hit0
    clear c0 c1 c2 e0 e1 e2 e3 e4 e5 hw1 hx1 hW2
    go_loopw [9, 10] (fun v9 v10 w' => ∃ j : Nat, j ≤ hi - lo ∧ v9 = .int .i64 (wd rs lo (lo + j) : Nat) ∧ v10 = .int .i64 ((lo + j : Nat) : Int) ∧ Lib.IsBuilderF 64 5 bx bx (Lib.byteCells (drawL rs lo car j)) w' ∧ w'.heap[it]? = some (.stringIter S (posOf ((rs.take hi).drop lo) j)) ∧ Below w.heap.size w w') (fun _ _ w' => S.size - w'.iterPos it)
    case atStart =>
      refine ⟨0, Nat.zero_le _, ?_, rfl, HI0.out.1, ?_, HI0.out.2.2⟩
      · rw [Nat.add_zero, wd_self]; rfl
      · rw [posOf_zero]
        exact HI0.out.2.1
    case round =>
      obtain ⟨j, hj, rfl, rfl, hI1, hit1, hb1⟩ := hrel
      have hsz1 := (Array.getElem?_eq_some_iff.1 hit1).1
      have hdl := drawL_len rs lo car j
      by_cases hjl : j < hi - lo
      · have hnx : ∀ ty, (Instr.next (.pointer (some ⟨it, 0, none⟩)) true ty).run Tryd.prog wr = _ := fun ty => run_next_text hex wr it j ty hit1 (by omega)
        have hI2 := hI1.iterAt hit1 (posOf ((rs.take hi).drop lo) (j + 1))
        have hit2 := iterAt_heap wr it S _ (posOf ((rs.take hi).drop lo) (j + 1)) hit1
        have hb2 : Below w.heap.size w (wr.iterAt it S (posOf ((rs.take hi).drop lo) (j + 1))) := below_iterAt hb1 (by omega) _ _
        have HPs : Hid (wr.iterPos it = posOf ((rs.take hi).drop lo) j) := iterPos_of' hit1
        generalize hW : wr.iterAt it S (posOf ((rs.take hi).drop lo) (j + 1)) = W2 at *
        have HLt : Hid (S.size - posOf ((rs.take hi).drop lo) (j + 1) < S.size - posOf ((rs.take hi).drop lo) j) := by
          show _ < _
          rw [hex.size, hln]
          have h1 := posOf_lt ((rs.take hi).drop lo) (i := j) (j := j + 1) (by omega) (by omega)
          have h2 := posOf_mono ((rs.take hi).drop lo) (i := j + 1) (j := hi - lo) (by omega)
          omega
        obtain ⟨r, hr, hv, hg, hCo, hsu⟩ := HC.out j hjl
        obtain ⟨hlt, hrr⟩ := List.getElem?_eq_some_iff.1 hr
        rw [hrr] at hnx
        have hc4 := colN_le r (wd rs lo (lo + j))
        have hT9 : Hid (r = 9 → 1 ≤ colN r (wd rs lo (lo + j))) := fun e => by rw [colN, if_pos e]; omega
        have HDL : Hid (drawL rs lo car (j + 1) = drawL rs lo car j ++ (if ((lo + j : Nat) : Int) = car then [124] else []) ++ chB r (wd rs lo (lo + j))) := by
          show _ = _
          rw [drawL, hg]
        have hb4 := wd_le rs lo (lo + j)
        obtain ⟨c, hc⟩ : ∃ c, wd rs lo (lo + j) = c := ⟨_, rfl⟩
        rw [hc] at hCo hsu hc4 hb4 hT9 HDL ⊢
        have HSu : Hid (wd rs lo (lo + (j + 1)) = c + colN r c) := hsu
        have HCo : Hid (∀ V, Below w.heap.size w V → _) := hCo
        clear hW hI1 hit1 hb1 hr hrr hsu hc hlt hCo hsz1 hg
        by_cases hjc : ((lo + j : Nat) : Int) = car
        · rw [if_pos hjc] at HDL
          have zc : (((lo + j : Nat) : Int) == car) = true := beq_iff_eq.2 hjc
          have zc' : (((lo : Int) + (j : Int)) == car) = true := by rw [← Int.natCast_add]; exact zc
          clear hjc
          go_wp2_with fail
          refine (writeByte_any bx bx _ 124 _ hI2 (by rw [Lib.byteCells_length]; omega) (by have := (Array.getElem?_eq_some_iff.1 hit2).1; omega)).mono ?_
          rintro e w3 ⟨rfl, h3, b3, k3⟩
          have hit3 := k3.iter hit2 (by omega)
          have hb3 := hb2.trans (b3.mono (by omega))
          have hI3 : Lib.IsBuilderF 64 5 bx bx (Lib.byteCells (drawL rs lo car j ++ [124])) w3 := .inr (by
            rw [Lib.byteCells_append]
            exact h3)
          clear hI2 hit2 hb2 h3 b3 k3
          go_wp2_with fail
          refine (HCo.out _ hb3).mono ?_
          rintro e w4 ⟨rfl, b4⟩
          have hI4 := builder_keep hI3 b4
          have hit4 := (b4.block _ (Array.getElem?_eq_some_iff.1 hit3).1).trans hit3
          have hb4 := hb3.trans (b4.mono hb3.size)
          clear hI3 hit3 hb3 b4
          by_cases h9 : r = 9
          · subst h9
            go_wp2_with fail
            refine (repeat_any (hT9.out trivial) hc4 _).mono ?_
            rintro e w5 ⟨rfl, b5⟩
            have hI5 := builder_keep hI4 b5
            have hit5 := (b5.block _ (Array.getElem?_eq_some_iff.1 hit4).1).trans hit4
            have hb5 := hb4.trans (b5.mono hb4.size)
            clear hI4 hit4 hb4 b5
            go_wp2_with fail
            refine (writeString_any bx bx _ _ _ hI5 (by rw [Lib.byteCells_length]; (try rw [rep_size2]); (try simp only [List.length_append, List.length_cons, List.length_nil]); omega) (by have := (Array.getElem?_eq_some_iff.1 hit5).1; omega)).mono ?_
            rintro e w6 ⟨rfl, h6, b6, k6⟩
            have hit6 := k6.iter hit5 (by omega)
            have hb6 := hb5.trans (b6.mono (by omega))
            have hI6 : Lib.IsBuilderF 64 5 bx bx (Lib.byteCells (drawL rs lo car (j + 1))) w6 := .inr (by
              rw [HDL.out, chB, if_pos rfl, Lib.byteCells_append]
              exact h6)
            clear hI5 hit5 hb5 h6 b6 k6
            go_wp2_with fail
            refine ⟨⟨j + 1, by omega, by rw [HSu.out]; go_num, by go_num, hI6, hit6, hb6⟩, ?_⟩
            rw [HPs.out, iterPos_of' hit6]
            have := HLt.out
            omega
          · have z9 : (r == 9) = false := beq_eq_false_iff_ne.2 h9
            go_wp2_with fail
            refine (writeRune_any bx bx _ r hv _ hI4 (by rw [Lib.byteCells_length]; (try rw [rep_size2]); (try simp only [List.length_append, List.length_cons, List.length_nil]); omega) (by have := (Array.getElem?_eq_some_iff.1 hit4).1; omega)).mono ?_
            rintro e w6 ⟨⟨v, rfl⟩, h6, b6, k6⟩
            have hit6 := k6.iter hit4 (by omega)
            have hb6 := hb4.trans (b6.mono (by omega))
            have hI6 : Lib.IsBuilderF 64 5 bx bx (Lib.byteCells (drawL rs lo car (j + 1))) w6 := .inr (by
              rw [HDL.out, chB, if_neg h9, Lib.byteCells_append]
              exact h6)
            clear hI4 hit4 hb4 h6 b6 k6
            go_wp2_with fail
            refine ⟨⟨j + 1, by omega, by rw [HSu.out]; go_num, by go_num, hI6, hit6, hb6⟩, ?_⟩
            rw [HPs.out, iterPos_of' hit6]
            have := HLt.out
            omega
        · rw [if_neg hjc, List.append_nil] at HDL
          have zc : (((lo + j : Nat) : Int) == car) = false := beq_eq_false_iff_ne.2 hjc
          have zc' : (((lo : Int) + (j : Int)) == car) = false := by rw [← Int.natCast_add]; exact zc
          clear hjc
          go_wp2_with fail
          refine (HCo.out _ hb2).mono ?_
          rintro e w3 ⟨rfl, b3⟩
          have hI3 := builder_keep hI2 b3
          have hit3 := (b3.block _ (Array.getElem?_eq_some_iff.1 hit2).1).trans hit2
          have hb3 := hb2.trans (b3.mono hb2.size)
          clear hI2 hit2 hb2 b3
          by_cases h9 : r = 9
          · subst h9
            go_wp2_with fail
            refine (repeat_any (hT9.out trivial) hc4 _).mono ?_
            rintro e w4 ⟨rfl, b4⟩
            have hI4 := builder_keep hI3 b4
            have hit4 := (b4.block _ (Array.getElem?_eq_some_iff.1 hit3).1).trans hit3
            have hb4 := hb3.trans (b4.mono hb3.size)
            clear hI3 hit3 hb3 b4
            go_wp2_with fail
            refine (writeString_any bx bx _ _ _ hI4 (by rw [Lib.byteCells_length]; (try rw [rep_size2]); (try simp only [List.length_append, List.length_cons, List.length_nil]); omega) (by have := (Array.getElem?_eq_some_iff.1 hit4).1; omega)).mono ?_
            rintro e w5 ⟨rfl, h5, b5, k5⟩
            have hit5 := k5.iter hit4 (by omega)
            have hb5 := hb4.trans (b5.mono (by omega))
            have hI5 : Lib.IsBuilderF 64 5 bx bx (Lib.byteCells (drawL rs lo car (j + 1))) w5 := .inr (by
              rw [HDL.out, chB, if_pos rfl, Lib.byteCells_append]
              exact h5)
            clear hI4 hit4 hb4 h5 b5 k5
            go_wp2_with fail
            refine ⟨⟨j + 1, by omega, by rw [HSu.out]; go_num, by go_num, hI5, hit5, hb5⟩, ?_⟩
            rw [HPs.out, iterPos_of' hit5]
            have := HLt.out
            omega
          · have z9 : (r == 9) = false := beq_eq_false_iff_ne.2 h9
            go_wp2_with fail
            refine (writeRune_any bx bx _ r hv _ hI3 (by rw [Lib.byteCells_length]; (try rw [rep_size2]); (try simp only [List.length_append, List.length_cons, List.length_nil]); omega) (by have := (Array.getElem?_eq_some_iff.1 hit3).1; omega)).mono ?_
            rintro e w5 ⟨⟨v, rfl⟩, h5, b5, k5⟩
            have hit5 := k5.iter hit3 (by omega)
            have hb5 := hb3.trans (b5.mono (by omega))
            have hI5 : Lib.IsBuilderF 64 5 bx bx (Lib.byteCells (drawL rs lo car (j + 1))) w5 := .inr (by
              rw [HDL.out, chB, if_neg h9, Lib.byteCells_append]
              exact h5)
            clear hI3 hit3 hb3 h5 b5 k5
            go_wp2_with fail
            refine ⟨⟨j + 1, by omega, by rw [HSu.out]; go_num, by go_num, hI5, hit5, hb5⟩, ?_⟩
            rw [HPs.out, iterPos_of' hit5]
            have := HLt.out
            omega
      · have hje : j = hi - lo := by omega
        subst hje
        have hitE : wr.heap[it]? = some (.stringIter S (posOf ((rs.take hi).drop lo) ((rs.take hi).drop lo).length)) := by rw [hln]; exact hit1
        have hnx : ∀ ty, (Instr.next (.pointer (some ⟨it, 0, none⟩)) true ty).run Tryd.prog wr = _ := fun ty => run_next_done hex wr it ty hitE
        rw [show lo + (hi - lo) = hi by omega]
        clear hitE
        by_cases hjc : (hi : Int) = car
        · rw [if_pos hjc] at HD
          have zc : ((hi : Int) == car) = true := beq_iff_eq.2 hjc
          clear hjc
          go_wp2_with fail
          refine (writeByte_any bx bx _ 124 _ hI1 (by rw [Lib.byteCells_length]; omega) (by omega)).mono ?_
          rintro e w3 ⟨rfl, h3, b3, -⟩
          have hb3 := hb1.trans (b3.mono (by omega))
          have hz3 := b3.size
          have hI3 : Lib.IsBuilderF 64 5 bx bx (Lib.byteCells (drawL rs lo car (hi - lo) ++ [124])) w3 := .inr (by
            rw [Lib.byteCells_append]
            exact h3)
          clear hI1 hit1 hb1 h3 b3
          go_wp2_with fail
          refine (Tryd.Builder_String_any_k bx bx (drawL rs lo car (hi - lo) ++ [124]) _ hI3 (by omega)).mono ?_
          rintro e w4 ⟨rfl, -, b4, -⟩
          have hb4 := hb3.trans (b4.mono (by omega))
          clear hI3 hb3 b4
          go_wp2_with fail
          refine (trimRight_any _ (by rw [size_data]; simp; omega) _).mono ?_
          rintro e w5 ⟨rfl, hwe⟩
          obtain rfl := hwe.symm
          clear hwe
          go_wp2_with fail
          go_ret
          rw [HD.out]
          exact ⟨rfl, hb4⟩
        · rw [if_neg hjc, List.append_nil] at HD
          have zc : ((hi : Int) == car) = false := beq_eq_false_iff_ne.2 hjc
          clear hjc
          go_wp2_with fail
          refine (Tryd.Builder_String_any_k bx bx (drawL rs lo car (hi - lo)) _ hI1 (by omega)).mono ?_
          rintro e w2 ⟨rfl, -, b2, -⟩
          have hb2 := hb1.trans (b2.mono (by omega))
          clear hI1 hb1 b2
          go_wp2_with fail
          refine (trimRight_any _ (by rw [size_data]; simp; omega) _).mono ?_
          rintro e w3 ⟨rfl, hwe⟩
          obtain rfl := hwe.symm
          clear hwe
          go_wp2_with fail
          go_ret
          rw [HD.out]
          exact ⟨rfl, hb2⟩
  · obtain ⟨at', hat, hce⟩ := hc.resolve_left hcar
    clear hc
    obtain ⟨c0, c1, c2⟩ := box3 hxV
    go_enter Tryd.func19, Tryd.ntmps19
    have z1 : (car == -1) = false := beq_eq_false_iff_ne.2 hcar
    have z2 : (car != -1) = true := by rw [bne, z1]; rfl
    have HCe : Hid (car = (at' : Int)) := hce
    have hCo := hRo.out V0 hbV at'
    rw [← hce] at hCo
    clear hcar hce hRo
    go_wp2_with fail
    refine hCo.mono ?_
    rintro e V1 ⟨r', lo', hi', hard', rfl, hst, hbc⟩
    have hbV1 := hbV.trans (hbc.mono hbV.size)
    have hxV1 := (hbc.block _ (Array.getElem?_eq_some_iff.1 hxV).1).trans hxV
    clear hCo c0 c1 c2 hxV hbV hbc hV0
    by_cases hrr : r' = r
    · subst hrr
      have HD : Hid (drawnB rs lo hi hard car = trimB (drawL rs lo car (hi - lo) ++ (if (hi : Int) = car then [124] else []))) := by
        show _ = _
        have hg' := hst.get
        rw [hr] at hg'
        injection hg' with hg'
        injection hg' with g1 g2 g3
        subst g1 g2 g3
        have l1 := hst.le
        have l2 := hst.last hat
        have e : carR lo hi hard car = car := by
          rw [HCe.out]
          unfold carR
          rw [if_pos ⟨by omega, by omega⟩]
        unfold drawnB
        rw [e]
      clear hr hst
      obtain ⟨bx, hbx⟩ : ∃ bx, V1.heap.size = bx := ⟨_, rfl⟩
      obtain ⟨w1, hw1⟩ : ∃ V, V1.alloc (.cells #[.pointer none, .slice none 0 0] 64) = V := ⟨_, rfl⟩
      have hb01 : Below V1.heap.size V1 w1 := by rw [← hw1]; exact (Below.refl _ _).alloc (Nat.le_refl _) _
      have hb1 : Below w.heap.size w w1 := hbV1.trans (hb01.mono hbV1.size)
      obtain ⟨rx, hs1⟩ : ∃ rx, w1.heap.size = rx := ⟨_, rfl⟩
      have hrx : rx = bx + 1 := by rw [← hs1, ← hw1, ← hbx]; simp
      have hwb : w.heap.size < bx := by rw [← hbx]; exact (Array.getElem?_eq_some_iff.1 hxV1).1
      have hx1 := (hb01.block _ (Array.getElem?_eq_some_iff.1 hxV1).1).trans hxV1
      obtain ⟨e0, e1, e2, e3, e4, e5⟩ := HCell.out w1 hb1
      obtain ⟨c0, c1, c2⟩ := box3 hx1
      obtain ⟨it, hit0⟩ : ∃ it, rx + 1 = it := ⟨_, rfl⟩
      have hF : Lib.IsBuilderF 64 5 bx bx (Lib.byteCells []) w1 := by
        have := Lib.IsBuilderF.of (Lib.fresh_isBuilder 64 5 V1)
        rw [hbx] at this
        rw [← hw1]
        exact this
      obtain ⟨W2, hW2⟩ : ∃ V, (w1.alloc (.cells #[.int .i64 (lo : Int), .int .i64 (hi : Int), .int .i64 cc, .bool hard, .int .i64 (f : Int), .int .i64 (t : Int)] 56)).iter S 0 = V := ⟨_, rfl⟩
      have HI0 : Hid (Lib.IsBuilderF 64 5 bx bx (Lib.byteCells []) W2 ∧ W2.heap[it]? = some (.stringIter S 0) ∧ Below w.heap.size w W2) := by
        rw [← hW2]
        refine ⟨(hF.alloc _).alloc _, ?_, (hb1.alloc (by omega) _).alloc (by simp; omega) _⟩
        have := World.iter_heap (w1.alloc (.cells #[.int .i64 (lo : Int), .int .i64 (hi : Int), .int .i64 cc, .bool hard, .int .i64 (f : Int), .int .i64 (t : Int)] 56)) S 0
        rw [show (w1.alloc (.cells #[.int .i64 (lo : Int), .int .i64 (hi : Int), .int .i64 cc, .bool hard, .int .i64 (f : Int), .int .i64 (t : Int)] 56)).heap.size = it by rw [← hit0, ← hs1]; simp] at this
        exact this
      clear hb01 hb1 hF
      have HRx : Hid (rx = bx + 1) := hrx
      have hwr : w.heap.size < rx := by omega
      have hwn : (w.heap.size == rx) = false := beq_eq_false_iff_ne.2 (by omega)
      have hwm : w.heap.size ≠ rx := by omega
      clear hrx
      have z3 : ((r' : Int) == r') = true := beq_self_eq_true _
      have z4 : ((r' : Int) != r') = false := by rw [bne, z3]; rfl
      go_wp2_with fail
      try rw [hS]
      try rw [hit0]
      try rw [hbx]
      try rw [hW2]
      have hbi : bx < it := by have := HRx.out; omega
      clear HRx hit0
      clear c0 c1 c2 e0 e1 e2 e3 e4 e5 hw1 hx1 hW2
      go_loopw [9, 10] (fun v9 v10 w' => ∃ j : Nat, j ≤ hi - lo ∧ v9 = .int .i64 (wd rs lo (lo + j) : Nat) ∧ v10 = .int .i64 ((lo + j : Nat) : Int) ∧ Lib.IsBuilderF 64 5 bx bx (Lib.byteCells (drawL rs lo car j)) w' ∧ w'.heap[it]? = some (.stringIter S (posOf ((rs.take hi).drop lo) j)) ∧ Below w.heap.size w w') (fun _ _ w' => S.size - w'.iterPos it)
      case atStart =>
        refine ⟨0, Nat.zero_le _, ?_, rfl, HI0.out.1, ?_, HI0.out.2.2⟩
        · rw [Nat.add_zero, wd_self]; rfl
        · rw [posOf_zero]
          exact HI0.out.2.1
      case round =>
        obtain ⟨j, hj, rfl, rfl, hI1, hit1, hb1⟩ := hrel
        have hsz1 := (Array.getElem?_eq_some_iff.1 hit1).1
        have hdl := drawL_len rs lo car j
        by_cases hjl : j < hi - lo
        · have hnx : ∀ ty, (Instr.next (.pointer (some ⟨it, 0, none⟩)) true ty).run Tryd.prog wr = _ := fun ty => run_next_text hex wr it j ty hit1 (by omega)
          have hI2 := hI1.iterAt hit1 (posOf ((rs.take hi).drop lo) (j + 1))
          have hit2 := iterAt_heap wr it S _ (posOf ((rs.take hi).drop lo) (j + 1)) hit1
          have hb2 : Below w.heap.size w (wr.iterAt it S (posOf ((rs.take hi).drop lo) (j + 1))) := below_iterAt hb1 (by omega) _ _
          have HPs : Hid (wr.iterPos it = posOf ((rs.take hi).drop lo) j) := iterPos_of' hit1
          generalize hW : wr.iterAt it S (posOf ((rs.take hi).drop lo) (j + 1)) = W2 at *
          have HLt : Hid (S.size - posOf ((rs.take hi).drop lo) (j + 1) < S.size - posOf ((rs.take hi).drop lo) j) := by
            show _ < _
            rw [hex.size, hln]
            have h1 := posOf_lt ((rs.take hi).drop lo) (i := j) (j := j + 1) (by omega) (by omega)
            have h2 := posOf_mono ((rs.take hi).drop lo) (i := j + 1) (j := hi - lo) (by omega)
            omega
          obtain ⟨r, hr, hv, hg, hCo, hsu⟩ := HC.out j hjl
          obtain ⟨hlt, hrr⟩ := List.getElem?_eq_some_iff.1 hr
          rw [hrr] at hnx
          have hc4 := colN_le r (wd rs lo (lo + j))
          have hT9 : Hid (r = 9 → 1 ≤ colN r (wd rs lo (lo + j))) := fun e => by rw [colN, if_pos e]; omega
          have HDL : Hid (drawL rs lo car (j + 1) = drawL rs lo car j ++ (if ((lo + j : Nat) : Int) = car then [124] else []) ++ chB r (wd rs lo (lo + j))) := by
            show _ = _
            rw [drawL, hg]
          have hb4 := wd_le rs lo (lo + j)
          obtain ⟨c, hc⟩ : ∃ c, wd rs lo (lo + j) = c := ⟨_, rfl⟩
          rw [hc] at hCo hsu hc4 hb4 hT9 HDL ⊢
          have HSu : Hid (wd rs lo (lo + (j + 1)) = c + colN r c) := hsu
          have HCo : Hid (∀ V, Below w.heap.size w V → _) := hCo
          clear hW hI1 hit1 hb1 hr hrr hsu hc hlt hCo hsz1 hg
          by_cases hjc : ((lo + j : Nat) : Int) = car
          · rw [if_pos hjc] at HDL
            have zc : (((lo + j : Nat) : Int) == car) = true := beq_iff_eq.2 hjc
            have zc' : (((lo : Int) + (j : Int)) == car) = true := by rw [← Int.natCast_add]; exact zc
            clear hjc
            go_wp2_with fail
            refine (writeByte_any bx bx _ 124 _ hI2 (by rw [Lib.byteCells_length]; omega) (by have := (Array.getElem?_eq_some_iff.1 hit2).1; omega)).mono ?_
            rintro e w3 ⟨rfl, h3, b3, k3⟩
            have hit3 := k3.iter hit2 (by omega)
            have hb3 := hb2.trans (b3.mono (by omega))
            have hI3 : Lib.IsBuilderF 64 5 bx bx (Lib.byteCells (drawL rs lo car j ++ [124])) w3 := .inr (by
              rw [Lib.byteCells_append]
              exact h3)
            clear hI2 hit2 hb2 h3 b3 k3
            go_wp2_with fail
            refine (HCo.out _ hb3).mono ?_
            rintro e w4 ⟨rfl, b4⟩
            have hI4 := builder_keep hI3 b4
            have hit4 := (b4.block _ (Array.getElem?_eq_some_iff.1 hit3).1).trans hit3
            have hb4 := hb3.trans (b4.mono hb3.size)
            clear hI3 hit3 hb3 b4
            by_cases h9 : r = 9
            · subst h9
              go_wp2_with fail
              refine (repeat_any (hT9.out trivial) hc4 _).mono ?_
              rintro e w5 ⟨rfl, b5⟩
              have hI5 := builder_keep hI4 b5
              have hit5 := (b5.block _ (Array.getElem?_eq_some_iff.1 hit4).1).trans hit4
              have hb5 := hb4.trans (b5.mono hb4.size)
              clear hI4 hit4 hb4 b5
              go_wp2_with fail
              refine (writeString_any bx bx _ _ _ hI5 (by rw [Lib.byteCells_length]; (try rw [rep_size2]); (try simp only [List.length_append, List.length_cons, List.length_nil]); omega) (by have := (Array.getElem?_eq_some_iff.1 hit5).1; omega)).mono ?_
              rintro e w6 ⟨rfl, h6, b6, k6⟩
              have hit6 := k6.iter hit5 (by omega)
              have hb6 := hb5.trans (b6.mono (by omega))
              have hI6 : Lib.IsBuilderF 64 5 bx bx (Lib.byteCells (drawL rs lo car (j + 1))) w6 := .inr (by
                rw [HDL.out, chB, if_pos rfl, Lib.byteCells_append]
                exact h6)
              clear hI5 hit5 hb5 h6 b6 k6
              go_wp2_with fail
              refine ⟨⟨j + 1, by omega, by rw [HSu.out]; go_num, by go_num, hI6, hit6, hb6⟩, ?_⟩
              rw [HPs.out, iterPos_of' hit6]
              have := HLt.out
              omega
            · have z9 : (r == 9) = false := beq_eq_false_iff_ne.2 h9
              go_wp2_with fail
              refine (writeRune_any bx bx _ r hv _ hI4 (by rw [Lib.byteCells_length]; (try rw [rep_size2]); (try simp only [List.length_append, List.length_cons, List.length_nil]); omega) (by have := (Array.getElem?_eq_some_iff.1 hit4).1; omega)).mono ?_
              rintro e w6 ⟨⟨v, rfl⟩, h6, b6, k6⟩
              have hit6 := k6.iter hit4 (by omega)
              have hb6 := hb4.trans (b6.mono (by omega))
              have hI6 : Lib.IsBuilderF 64 5 bx bx (Lib.byteCells (drawL rs lo car (j + 1))) w6 := .inr (by
                rw [HDL.out, chB, if_neg h9, Lib.byteCells_append]
                exact h6)
              clear hI4 hit4 hb4 h6 b6 k6
              go_wp2_with fail
              refine ⟨⟨j + 1, by omega, by rw [HSu.out]; go_num, by go_num, hI6, hit6, hb6⟩, ?_⟩
              rw [HPs.out, iterPos_of' hit6]
              have := HLt.out
              omega
          · rw [if_neg hjc, List.append_nil] at HDL
            have zc : (((lo + j : Nat) : Int) == car) = false := beq_eq_false_iff_ne.2 hjc
            have zc' : (((lo : Int) + (j : Int)) == car) = false := by rw [← Int.natCast_add]; exact zc
            clear hjc
            go_wp2_with fail
            refine (HCo.out _ hb2).mono ?_
            rintro e w3 ⟨rfl, b3⟩
            have hI3 := builder_keep hI2 b3
            have hit3 := (b3.block _ (Array.getElem?_eq_some_iff.1 hit2).1).trans hit2
            have hb3 := hb2.trans (b3.mono hb2.size)
            clear hI2 hit2 hb2 b3
            by_cases h9 : r = 9
            · subst h9
              go_wp2_with fail
              refine (repeat_any (hT9.out trivial) hc4 _).mono ?_
              rintro e w4 ⟨rfl, b4⟩
              have hI4 := builder_keep hI3 b4
              have hit4 := (b4.block _ (Array.getElem?_eq_some_iff.1 hit3).1).trans hit3
              have hb4 := hb3.trans (b4.mono hb3.size)
              clear hI3 hit3 hb3 b4
              go_wp2_with fail
              refine (writeString_any bx bx _ _ _ hI4 (by rw [Lib.byteCells_length]; (try rw [rep_size2]); (try simp only [List.length_append, List.length_cons, List.length_nil]); omega) (by have := (Array.getElem?_eq_some_iff.1 hit4).1; omega)).mono ?_
              rintro e w5 ⟨rfl, h5, b5, k5⟩
              have hit5 := k5.iter hit4 (by omega)
              have hb5 := hb4.trans (b5.mono (by omega))
              have hI5 : Lib.IsBuilderF 64 5 bx bx (Lib.byteCells (drawL rs lo car (j + 1))) w5 := .inr (by
                rw [HDL.out, chB, if_pos rfl, Lib.byteCells_append]
                exact h5)
              clear hI4 hit4 hb4 h5 b5 k5
              go_wp2_with fail
              refine ⟨⟨j + 1, by omega, by rw [HSu.out]; go_num, by go_num, hI5, hit5, hb5⟩, ?_⟩
              rw [HPs.out, iterPos_of' hit5]
              have := HLt.out
              omega
            · have z9 : (r == 9) = false := beq_eq_false_iff_ne.2 h9
              go_wp2_with fail
              refine (writeRune_any bx bx _ r hv _ hI3 (by rw [Lib.byteCells_length]; (try rw [rep_size2]); (try simp only [List.length_append, List.length_cons, List.length_nil]); omega) (by have := (Array.getElem?_eq_some_iff.1 hit3).1; omega)).mono ?_
              rintro e w5 ⟨⟨v, rfl⟩, h5, b5, k5⟩
              have hit5 := k5.iter hit3 (by omega)
              have hb5 := hb3.trans (b5.mono (by omega))
              have hI5 : Lib.IsBuilderF 64 5 bx bx (Lib.byteCells (drawL rs lo car (j + 1))) w5 := .inr (by
                rw [HDL.out, chB, if_neg h9, Lib.byteCells_append]
                exact h5)
              clear hI3 hit3 hb3 h5 b5 k5
              go_wp2_with fail
              refine ⟨⟨j + 1, by omega, by rw [HSu.out]; go_num, by go_num, hI5, hit5, hb5⟩, ?_⟩
              rw [HPs.out, iterPos_of' hit5]
              have := HLt.out
              omega
        · have hje : j = hi - lo := by omega
          subst hje
          have hitE : wr.heap[it]? = some (.stringIter S (posOf ((rs.take hi).drop lo) ((rs.take hi).drop lo).length)) := by rw [hln]; exact hit1
          have hnx : ∀ ty, (Instr.next (.pointer (some ⟨it, 0, none⟩)) true ty).run Tryd.prog wr = _ := fun ty => run_next_done hex wr it ty hitE
          rw [show lo + (hi - lo) = hi by omega]
          clear hitE
          by_cases hjc : (hi : Int) = car
          · rw [if_pos hjc] at HD
            have zc : ((hi : Int) == car) = true := beq_iff_eq.2 hjc
            clear hjc
            go_wp2_with fail
            refine (writeByte_any bx bx _ 124 _ hI1 (by rw [Lib.byteCells_length]; omega) (by omega)).mono ?_
            rintro e w3 ⟨rfl, h3, b3, -⟩
            have hb3 := hb1.trans (b3.mono (by omega))
            have hz3 := b3.size
            have hI3 : Lib.IsBuilderF 64 5 bx bx (Lib.byteCells (drawL rs lo car (hi - lo) ++ [124])) w3 := .inr (by
              rw [Lib.byteCells_append]
              exact h3)
            clear hI1 hit1 hb1 h3 b3
            go_wp2_with fail
            refine (Tryd.Builder_String_any_k bx bx (drawL rs lo car (hi - lo) ++ [124]) _ hI3 (by omega)).mono ?_
            rintro e w4 ⟨rfl, -, b4, -⟩
            have hb4 := hb3.trans (b4.mono (by omega))
            clear hI3 hb3 b4
            go_wp2_with fail
            refine (trimRight_any _ (by rw [size_data]; simp; omega) _).mono ?_
            rintro e w5 ⟨rfl, hwe⟩
            obtain rfl := hwe.symm
            clear hwe
            go_wp2_with fail
            go_ret
            rw [HD.out]
            exact ⟨rfl, hb4⟩
          · rw [if_neg hjc, List.append_nil] at HD
            have zc : ((hi : Int) == car) = false := beq_eq_false_iff_ne.2 hjc
            clear hjc
            go_wp2_with fail
            refine (Tryd.Builder_String_any_k bx bx (drawL rs lo car (hi - lo)) _ hI1 (by omega)).mono ?_
            rintro e w2 ⟨rfl, -, b2, -⟩
            have hb2 := hb1.trans (b2.mono (by omega))
            clear hI1 hb1 b2
            go_wp2_with fail
            refine (trimRight_any _ (by rw [size_data]; simp; omega) _).mono ?_
            rintro e w3 ⟨rfl, hwe⟩
            obtain rfl := hwe.symm
            clear hwe
            go_wp2_with fail
            go_ret
            rw [HD.out]
            exact ⟨rfl, hb2⟩
    · obtain ⟨C, hC⟩ : ∃ C : Int, C = -1 := ⟨_, rfl⟩
      have HD : Hid (drawnB rs lo hi hard car = trimB (drawL rs lo C (hi - lo) ++ (if (hi : Int) = C then [124] else []))) := by
        show _ = _
        have e : carR lo hi hard car = C := by
          rw [HCe.out, hC]
          unfold carR
          split
          · next hh =>
            exact absurd (Stands.unique hst (Stands.of hr (by omega) (by omega))) hrr
          · rfl
        unfold drawnB
        rw [e]
      clear hr hst
      have HCm : Hid (C = -1) := hC
      clear hC
      obtain ⟨bx, hbx⟩ : ∃ bx, V1.heap.size = bx := ⟨_, rfl⟩
      obtain ⟨w1, hw1⟩ : ∃ V, V1.alloc (.cells #[.pointer none, .slice none 0 0] 64) = V := ⟨_, rfl⟩
      have hb01 : Below V1.heap.size V1 w1 := by rw [← hw1]; exact (Below.refl _ _).alloc (Nat.le_refl _) _
      have hb1 : Below w.heap.size w w1 := hbV1.trans (hb01.mono hbV1.size)
      obtain ⟨rx, hs1⟩ : ∃ rx, w1.heap.size = rx := ⟨_, rfl⟩
      have hrx : rx = bx + 1 := by rw [← hs1, ← hw1, ← hbx]; simp
      have hwb : w.heap.size < bx := by rw [← hbx]; exact (Array.getElem?_eq_some_iff.1 hxV1).1
      have hx1 := (hb01.block _ (Array.getElem?_eq_some_iff.1 hxV1).1).trans hxV1
      obtain ⟨e0, e1, e2, e3, e4, e5⟩ := HCell.out w1 hb1
      obtain ⟨c0, c1, c2⟩ := box3 hx1
      obtain ⟨it, hit0⟩ : ∃ it, rx + 1 = it := ⟨_, rfl⟩
      have hF : Lib.IsBuilderF 64 5 bx bx (Lib.byteCells []) w1 := by
        have := Lib.IsBuilderF.of (Lib.fresh_isBuilder 64 5 V1)
        rw [hbx] at this
        rw [← hw1]
        exact this
      obtain ⟨W2, hW2⟩ : ∃ V, (w1.alloc (.cells #[.int .i64 (lo : Int), .int .i64 (hi : Int), .int .i64 cc, .bool hard, .int .i64 (f : Int), .int .i64 (t : Int)] 56)).iter S 0 = V := ⟨_, rfl⟩
      have HI0 : Hid (Lib.IsBuilderF 64 5 bx bx (Lib.byteCells []) W2 ∧ W2.heap[it]? = some (.stringIter S 0) ∧ Below w.heap.size w W2) := by
        rw [← hW2]
        refine ⟨(hF.alloc _).alloc _, ?_, (hb1.alloc (by omega) _).alloc (by simp; omega) _⟩
        have := World.iter_heap (w1.alloc (.cells #[.int .i64 (lo : Int), .int .i64 (hi : Int), .int .i64 cc, .bool hard, .int .i64 (f : Int), .int .i64 (t : Int)] 56)) S 0
        rw [show (w1.alloc (.cells #[.int .i64 (lo : Int), .int .i64 (hi : Int), .int .i64 cc, .bool hard, .int .i64 (f : Int), .int .i64 (t : Int)] 56)).heap.size = it by rw [← hit0, ← hs1]; simp] at this
        exact this
      clear hb01 hb1 hF
      have HRx : Hid (rx = bx + 1) := hrx
      have hwr : w.heap.size < rx := by omega
      have hwn : (w.heap.size == rx) = false := beq_eq_false_iff_ne.2 (by omega)
      have hwm : w.heap.size ≠ rx := by omega
      clear hrx
      have z3 : ((r' : Int) == r) = false := beq_eq_false_iff_ne.2 (by omega)
      have z4 : ((r' : Int) != r) = true := by rw [bne, z3]; rfl
      clear hrr
      go_wp2_with fail
      rw [← HCm.out]
      clear HCm
      try rw [hS]
      try rw [hit0]
      try rw [hbx]
      try rw [hW2]
      have hbi : bx < it := by have := HRx.out; omega
      clear HRx hit0
      clear c0 c1 c2 e0 e1 e2 e3 e4 e5 hw1 hx1 hW2
      go_loopw [9, 10] (fun v9 v10 w' => ∃ j : Nat, j ≤ hi - lo ∧ v9 = .int .i64 (wd rs lo (lo + j) : Nat) ∧ v10 = .int .i64 ((lo + j : Nat) : Int) ∧ Lib.IsBuilderF 64 5 bx bx (Lib.byteCells (drawL rs lo C j)) w' ∧ w'.heap[it]? = some (.stringIter S (posOf ((rs.take hi).drop lo) j)) ∧ Below w.heap.size w w') (fun _ _ w' => S.size - w'.iterPos it)
      case atStart =>
        refine ⟨0, Nat.zero_le _, ?_, rfl, HI0.out.1, ?_, HI0.out.2.2⟩
        · rw [Nat.add_zero, wd_self]; rfl
        · rw [posOf_zero]
          exact HI0.out.2.1
      case round =>
        obtain ⟨j, hj, rfl, rfl, hI1, hit1, hb1⟩ := hrel
        have hsz1 := (Array.getElem?_eq_some_iff.1 hit1).1
        have hdl := drawL_len rs lo C j
        by_cases hjl : j < hi - lo
        · have hnx : ∀ ty, (Instr.next (.pointer (some ⟨it, 0, none⟩)) true ty).run Tryd.prog wr = _ := fun ty => run_next_text hex wr it j ty hit1 (by omega)
          have hI2 := hI1.iterAt hit1 (posOf ((rs.take hi).drop lo) (j + 1))
          have hit2 := iterAt_heap wr it S _ (posOf ((rs.take hi).drop lo) (j + 1)) hit1
          have hb2 : Below w.heap.size w (wr.iterAt it S (posOf ((rs.take hi).drop lo) (j + 1))) := below_iterAt hb1 (by omega) _ _
          have HPs : Hid (wr.iterPos it = posOf ((rs.take hi).drop lo) j) := iterPos_of' hit1
          generalize hW : wr.iterAt it S (posOf ((rs.take hi).drop lo) (j + 1)) = W2 at *
          have HLt : Hid (S.size - posOf ((rs.take hi).drop lo) (j + 1) < S.size - posOf ((rs.take hi).drop lo) j) := by
            show _ < _
            rw [hex.size, hln]
            have h1 := posOf_lt ((rs.take hi).drop lo) (i := j) (j := j + 1) (by omega) (by omega)
            have h2 := posOf_mono ((rs.take hi).drop lo) (i := j + 1) (j := hi - lo) (by omega)
            omega
          obtain ⟨r, hr, hv, hg, hCo, hsu⟩ := HC.out j hjl
          obtain ⟨hlt, hrr⟩ := List.getElem?_eq_some_iff.1 hr
          rw [hrr] at hnx
          have hc4 := colN_le r (wd rs lo (lo + j))
          have hT9 : Hid (r = 9 → 1 ≤ colN r (wd rs lo (lo + j))) := fun e => by rw [colN, if_pos e]; omega
          have HDL : Hid (drawL rs lo C (j + 1) = drawL rs lo C j ++ (if ((lo + j : Nat) : Int) = C then [124] else []) ++ chB r (wd rs lo (lo + j))) := by
            show _ = _
            rw [drawL, hg]
          have hb4 := wd_le rs lo (lo + j)
          obtain ⟨c, hc⟩ : ∃ c, wd rs lo (lo + j) = c := ⟨_, rfl⟩
          rw [hc] at hCo hsu hc4 hb4 hT9 HDL ⊢
          have HSu : Hid (wd rs lo (lo + (j + 1)) = c + colN r c) := hsu
          have HCo : Hid (∀ V, Below w.heap.size w V → _) := hCo
          clear hW hI1 hit1 hb1 hr hrr hsu hc hlt hCo hsz1 hg
          by_cases hjc : ((lo + j : Nat) : Int) = C
          · rw [if_pos hjc] at HDL
            have zc : (((lo + j : Nat) : Int) == C) = true := beq_iff_eq.2 hjc
            have zc' : (((lo : Int) + (j : Int)) == C) = true := by rw [← Int.natCast_add]; exact zc
            clear hjc
            go_wp2_with fail
            refine (writeByte_any bx bx _ 124 _ hI2 (by rw [Lib.byteCells_length]; omega) (by have := (Array.getElem?_eq_some_iff.1 hit2).1; omega)).mono ?_
            rintro e w3 ⟨rfl, h3, b3, k3⟩
            have hit3 := k3.iter hit2 (by omega)
            have hb3 := hb2.trans (b3.mono (by omega))
            have hI3 : Lib.IsBuilderF 64 5 bx bx (Lib.byteCells (drawL rs lo C j ++ [124])) w3 := .inr (by
              rw [Lib.byteCells_append]
              exact h3)
            clear hI2 hit2 hb2 h3 b3 k3
            go_wp2_with fail
            refine (HCo.out _ hb3).mono ?_
            rintro e w4 ⟨rfl, b4⟩
            have hI4 := builder_keep hI3 b4
            have hit4 := (b4.block _ (Array.getElem?_eq_some_iff.1 hit3).1).trans hit3
            have hb4 := hb3.trans (b4.mono hb3.size)
            clear hI3 hit3 hb3 b4
            by_cases h9 : r = 9
            · subst h9
              go_wp2_with fail
              refine (repeat_any (hT9.out trivial) hc4 _).mono ?_
              rintro e w5 ⟨rfl, b5⟩
              have hI5 := builder_keep hI4 b5
              have hit5 := (b5.block _ (Array.getElem?_eq_some_iff.1 hit4).1).trans hit4
              have hb5 := hb4.trans (b5.mono hb4.size)
              clear hI4 hit4 hb4 b5
              go_wp2_with fail
              refine (writeString_any bx bx _ _ _ hI5 (by rw [Lib.byteCells_length]; (try rw [rep_size2]); (try simp only [List.length_append, List.length_cons, List.length_nil]); omega) (by have := (Array.getElem?_eq_some_iff.1 hit5).1; omega)).mono ?_
              rintro e w6 ⟨rfl, h6, b6, k6⟩
              have hit6 := k6.iter hit5 (by omega)
              have hb6 := hb5.trans (b6.mono (by omega))
              have hI6 : Lib.IsBuilderF 64 5 bx bx (Lib.byteCells (drawL rs lo C (j + 1))) w6 := .inr (by
                rw [HDL.out, chB, if_pos rfl, Lib.byteCells_append]
                exact h6)
              clear hI5 hit5 hb5 h6 b6 k6
              go_wp2_with fail
              refine ⟨⟨j + 1, by omega, by rw [HSu.out]; go_num, by go_num, hI6, hit6, hb6⟩, ?_⟩
              rw [HPs.out, iterPos_of' hit6]
              have := HLt.out
              omega
            · have z9 : (r == 9) = false := beq_eq_false_iff_ne.2 h9
              go_wp2_with fail
              refine (writeRune_any bx bx _ r hv _ hI4 (by rw [Lib.byteCells_length]; (try rw [rep_size2]); (try simp only [List.length_append, List.length_cons, List.length_nil]); omega) (by have := (Array.getElem?_eq_some_iff.1 hit4).1; omega)).mono ?_
              rintro e w6 ⟨⟨v, rfl⟩, h6, b6, k6⟩
              have hit6 := k6.iter hit4 (by omega)
              have hb6 := hb4.trans (b6.mono (by omega))
              have hI6 : Lib.IsBuilderF 64 5 bx bx (Lib.byteCells (drawL rs lo C (j + 1))) w6 := .inr (by
                rw [HDL.out, chB, if_neg h9, Lib.byteCells_append]
                exact h6)
              clear hI4 hit4 hb4 h6 b6 k6
              go_wp2_with fail
              refine ⟨⟨j + 1, by omega, by rw [HSu.out]; go_num, by go_num, hI6, hit6, hb6⟩, ?_⟩
              rw [HPs.out, iterPos_of' hit6]
              have := HLt.out
              omega
          · rw [if_neg hjc, List.append_nil] at HDL
            have zc : (((lo + j : Nat) : Int) == C) = false := beq_eq_false_iff_ne.2 hjc
            have zc' : (((lo : Int) + (j : Int)) == C) = false := by rw [← Int.natCast_add]; exact zc
            clear hjc
            go_wp2_with fail
            refine (HCo.out _ hb2).mono ?_
            rintro e w3 ⟨rfl, b3⟩
            have hI3 := builder_keep hI2 b3
            have hit3 := (b3.block _ (Array.getElem?_eq_some_iff.1 hit2).1).trans hit2
            have hb3 := hb2.trans (b3.mono hb2.size)
            clear hI2 hit2 hb2 b3
            by_cases h9 : r = 9
            · subst h9
              go_wp2_with fail
              refine (repeat_any (hT9.out trivial) hc4 _).mono ?_
              rintro e w4 ⟨rfl, b4⟩
              have hI4 := builder_keep hI3 b4
              have hit4 := (b4.block _ (Array.getElem?_eq_some_iff.1 hit3).1).trans hit3
              have hb4 := hb3.trans (b4.mono hb3.size)
              clear hI3 hit3 hb3 b4
              go_wp2_with fail
              refine (writeString_any bx bx _ _ _ hI4 (by rw [Lib.byteCells_length]; (try rw [rep_size2]); (try simp only [List.length_append, List.length_cons, List.length_nil]); omega) (by have := (Array.getElem?_eq_some_iff.1 hit4).1; omega)).mono ?_
              rintro e w5 ⟨rfl, h5, b5, k5⟩
              have hit5 := k5.iter hit4 (by omega)
              have hb5 := hb4.trans (b5.mono (by omega))
              have hI5 : Lib.IsBuilderF 64 5 bx bx (Lib.byteCells (drawL rs lo C (j + 1))) w5 := .inr (by
                rw [HDL.out, chB, if_pos rfl, Lib.byteCells_append]
                exact h5)
              clear hI4 hit4 hb4 h5 b5 k5
              go_wp2_with fail
              refine ⟨⟨j + 1, by omega, by rw [HSu.out]; go_num, by go_num, hI5, hit5, hb5⟩, ?_⟩
              rw [HPs.out, iterPos_of' hit5]
              have := HLt.out
              omega
            · have z9 : (r == 9) = false := beq_eq_false_iff_ne.2 h9
              go_wp2_with fail
              refine (writeRune_any bx bx _ r hv _ hI3 (by rw [Lib.byteCells_length]; (try rw [rep_size2]); (try simp only [List.length_append, List.length_cons, List.length_nil]); omega) (by have := (Array.getElem?_eq_some_iff.1 hit3).1; omega)).mono ?_
              rintro e w5 ⟨⟨v, rfl⟩, h5, b5, k5⟩
              have hit5 := k5.iter hit3 (by omega)
              have hb5 := hb3.trans (b5.mono (by omega))
              have hI5 : Lib.IsBuilderF 64 5 bx bx (Lib.byteCells (drawL rs lo C (j + 1))) w5 := .inr (by
                rw [HDL.out, chB, if_neg h9, Lib.byteCells_append]
                exact h5)
              clear hI3 hit3 hb3 h5 b5 k5
              go_wp2_with fail
              refine ⟨⟨j + 1, by omega, by rw [HSu.out]; go_num, by go_num, hI5, hit5, hb5⟩, ?_⟩
              rw [HPs.out, iterPos_of' hit5]
              have := HLt.out
              omega
        · have hje : j = hi - lo := by omega
          subst hje
          have hitE : wr.heap[it]? = some (.stringIter S (posOf ((rs.take hi).drop lo) ((rs.take hi).drop lo).length)) := by rw [hln]; exact hit1
          have hnx : ∀ ty, (Instr.next (.pointer (some ⟨it, 0, none⟩)) true ty).run Tryd.prog wr = _ := fun ty => run_next_done hex wr it ty hitE
          rw [show lo + (hi - lo) = hi by omega]
          clear hitE
          by_cases hjc : (hi : Int) = C
          · rw [if_pos hjc] at HD
            have zc : ((hi : Int) == C) = true := beq_iff_eq.2 hjc
            clear hjc
            go_wp2_with fail
            refine (writeByte_any bx bx _ 124 _ hI1 (by rw [Lib.byteCells_length]; omega) (by omega)).mono ?_
            rintro e w3 ⟨rfl, h3, b3, -⟩
            have hb3 := hb1.trans (b3.mono (by omega))
            have hz3 := b3.size
            have hI3 : Lib.IsBuilderF 64 5 bx bx (Lib.byteCells (drawL rs lo C (hi - lo) ++ [124])) w3 := .inr (by
              rw [Lib.byteCells_append]
              exact h3)
            clear hI1 hit1 hb1 h3 b3
            go_wp2_with fail
            refine (Tryd.Builder_String_any_k bx bx (drawL rs lo C (hi - lo) ++ [124]) _ hI3 (by omega)).mono ?_
            rintro e w4 ⟨rfl, -, b4, -⟩
            have hb4 := hb3.trans (b4.mono (by omega))
            clear hI3 hb3 b4
            go_wp2_with fail
            refine (trimRight_any _ (by rw [size_data]; simp; omega) _).mono ?_
            rintro e w5 ⟨rfl, hwe⟩
            obtain rfl := hwe.symm
            clear hwe
            go_wp2_with fail
            go_ret
            rw [HD.out]
            exact ⟨rfl, hb4⟩
          · rw [if_neg hjc, List.append_nil] at HD
            have zc : ((hi : Int) == C) = false := beq_eq_false_iff_ne.2 hjc
            clear hjc
            go_wp2_with fail
            refine (Tryd.Builder_String_any_k bx bx (drawL rs lo C (hi - lo)) _ hI1 (by omega)).mono ?_
            rintro e w2 ⟨rfl, -, b2, -⟩
            have hb2 := hb1.trans (b2.mono (by omega))
            clear hI1 hb1 b2
            go_wp2_with fail
            refine (trimRight_any _ (by rw [size_data]; simp; omega) _).mono ?_
            rintro e w3 ⟨rfl, hwe⟩
            obtain rfl := hwe.symm
            clear hwe
            go_wp2_with fail
            go_ret
            rw [HD.out]
            exact ⟨rfl, hb2⟩
end Go.Proofs.YtfnpmncmceocdaaDoor
