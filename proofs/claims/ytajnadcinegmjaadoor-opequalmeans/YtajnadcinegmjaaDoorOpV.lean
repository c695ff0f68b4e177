import Derived.Test.YtajnadcinegmjaaDoorOpU
import Derived.Test.YtajnadcinegmjaaDoorOpO
namespace Go.Proofs.YtajnadcinegmjaaDoor
open Go.RowKit Go.Lib Sp
set_option maxRecDepth 100000

theorem quoL_le : ∀ (f : Nat) (l : List UInt8), (quoL f l).length ≤ 10 * f
  | 0, l => by simp [quoL]
  | f + 1, l => by
    rw [quoL]
    split
    · simp
    · have h1 := (pieceL_len l).2
      have h2 := quoL_le f (l.drop (dec l).2)
      rw [List.length_append]; omega
theorem quoted_le (s : ByteArray) : (quoted s).length ≤ 10 * s.size + 2 := by
  unfold quoted
  have := quoL_le s.size s.data.toList
  simp only [List.length_append, List.length_cons, List.length_nil]; omega
theorem idB_length {c n : Int} (h0 : 0 ≤ c) (h1 : c ≤ 1048576) (h2 : 0 ≤ n) (h3 : n ≤ 1048576) : (idB c n).length ≤ 100 := by
  unfold idB
  have h1 := Lib.itoa_length_le c (by omega) (by omega)
  have h2 := Lib.itoa_length_le n (by omega) (by omega)
  split
  · simp
  · simp only [List.length_append, List.length_cons, List.length_nil]; omega

set_option maxHeartbeats 1000000 in
theorem printWord_2 {c n p : Int} {s : ByteArray} {l : List (Int × Int)} {tc tn : Int} {on : Bool} {w : World} {a : Option Addr} {m cap : Nat} (h : Rng w a m cap l) (hP : Places l) (hm : m ≤ 32768) (hp : Pow w) :
    Calls Tryd.prog 13 #[opVal ⟨c, n, 2, p, s, l, tc, tn, on⟩ (.slice a m cap)] w fun e w' => e = .returned (.string (bs ([104, 105, 100, 101, 32] ++ rngB l))) ∧ Below w.heap.size w w' := by
  have HP : Hid (∀ w' : World, Below w.heap.size w w' → Calls Tryd.prog 20 #[.slice a m cap] w' fun e w'' => e = .returned (.string (bs (rngB l))) ∧ Below w'.heap.size w' w'') := fun w' hb => printRanges_any (h.below hb) hP hm (hp.below hb)
  have q1 : (bs (rngB l)).size ≤ 1500000 := by
    rw [bs_size]
    have := rngB_length hP
    have := h.len
    omega
  have HR : Hid ((⟨#[104, 105, 100, 101, 32]⟩ : ByteArray) ++ bs (rngB l) = bs ([104, 105, 100, 101, 32] ++ rngB l)) := by
    show _ = _
    rw [← bs_append]
    rfl
  clear h hP hm hp
  generalize bs (rngB l) = x at *
  simp only [opVal]
  have hw2 := (Below.refl w.heap.size w).alloc (Nat.le_refl _) (Obj.cells #[.int .i64 c, .int .i64 n, .int .i64 2, .int .i64 p, .string s, .slice a m cap, .int .i64 tc, .int .i64 tn, .bool on] 34)
  go_enter Tryd.func13, Tryd.ntmps13
  go_wp2_with fail
  refine (HP.out _ hw2).mono ?_
  rintro e w1 ⟨rfl, hb1⟩
  have hB := hw2.trans (hb1.mono hw2.size)
  clear hw2 hb1 HP
  have g1 : ¬ 9223372036854775807 < 5 + x.size := by omega
  go_wp2_with fail
  go_ret
  exact ⟨congrArg (fun b => Ending.returned (.string b)) HR.out, hB⟩

set_option maxHeartbeats 1000000 in
theorem printWord_3 {c n p : Int} {s : ByteArray} {l : List (Int × Int)} {tc tn : Int} {on : Bool} {w : World} {a : Option Addr} {m cap : Nat} (h : Rng w a m cap l) (hP : Places l) (hm : m ≤ 32768) (hp : Pow w) :
    Calls Tryd.prog 13 #[opVal ⟨c, n, 3, p, s, l, tc, tn, on⟩ (.slice a m cap)] w fun e w' => e = .returned (.string (bs ([115, 104, 111, 119, 32] ++ rngB l))) ∧ Below w.heap.size w w' := by
  have HP : Hid (∀ w' : World, Below w.heap.size w w' → Calls Tryd.prog 20 #[.slice a m cap] w' fun e w'' => e = .returned (.string (bs (rngB l))) ∧ Below w'.heap.size w' w'') := fun w' hb => printRanges_any (h.below hb) hP hm (hp.below hb)
  have q1 : (bs (rngB l)).size ≤ 1500000 := by
    rw [bs_size]
    have := rngB_length hP
    have := h.len
    omega
  have HR : Hid ((⟨#[115, 104, 111, 119, 32]⟩ : ByteArray) ++ bs (rngB l) = bs ([115, 104, 111, 119, 32] ++ rngB l)) := by
    show _ = _
    rw [← bs_append]
    rfl
  clear h hP hm hp
  generalize bs (rngB l) = x at *
  simp only [opVal]
  have hw2 := (Below.refl w.heap.size w).alloc (Nat.le_refl _) (Obj.cells #[.int .i64 c, .int .i64 n, .int .i64 3, .int .i64 p, .string s, .slice a m cap, .int .i64 tc, .int .i64 tn, .bool on] 34)
  go_enter Tryd.func13, Tryd.ntmps13
  go_wp2_with fail
  refine (HP.out _ hw2).mono ?_
  rintro e w1 ⟨rfl, hb1⟩
  have hB := hw2.trans (hb1.mono hw2.size)
  clear hw2 hb1 HP
  have g1 : ¬ 9223372036854775807 < 5 + x.size := by omega
  go_wp2_with fail
  go_ret
  exact ⟨congrArg (fun b => Ending.returned (.string b)) HR.out, hB⟩

set_option maxHeartbeats 1000000 in
theorem printWord_true {c n p : Int} {s : ByteArray} {l : List (Int × Int)} {tc tn : Int} {w : World} {a : Option Addr} {m cap : Nat} (h0 : 0 ≤ tc) (h1 : tc ≤ 1048576) (h2 : 0 ≤ tn) (h3 : tn ≤ 1048576) (hp : Pow w) :
    Calls Tryd.prog 13 #[opVal ⟨c, n, 4, p, s, l, tc, tn, true⟩ (.slice a m cap)] w fun e w' => e = .returned (.string (bs ([111, 110, 32] ++ idB tc tn))) ∧ Below w.heap.size w w' := by
  have HP : Hid (∀ w' : World, Below w.heap.size w w' → Calls Tryd.prog 12 #[.agg #[.int .i64 tc, .int .i64 tn]] w' fun e w'' => e = .returned (.string (bs (idB tc tn))) ∧ Below w'.heap.size w' w'') := fun w' hb => printID_any h0 h1 h2 h3 w' (hp.below hb)
  have q1 : (bs (idB tc tn)).size ≤ 100 := by rw [bs_size]; exact idB_length h0 h1 h2 h3
  have HR : Hid ((⟨#[111, 110, 32]⟩ : ByteArray) ++ bs (idB tc tn) = bs ([111, 110, 32] ++ idB tc tn)) := by
    show _ = _
    rw [← bs_append]
    rfl
  clear h0 h1 h2 h3 hp
  generalize bs (idB tc tn) = x at *
  simp only [opVal]
  have hw2 := (Below.refl w.heap.size w).alloc (Nat.le_refl _) (Obj.cells #[.int .i64 c, .int .i64 n, .int .i64 4, .int .i64 p, .string s, .slice a m cap, .int .i64 tc, .int .i64 tn, .bool true] 34)
  go_enter Tryd.func13, Tryd.ntmps13
  go_wp2_with fail
  refine (HP.out _ hw2).mono ?_
  rintro e w1 ⟨rfl, hb1⟩
  have hB := hw2.trans (hb1.mono hw2.size)
  clear hw2 hb1 HP
  have g1 : ¬ 9223372036854775807 < 3 + x.size := by omega
  go_wp2_with fail
  go_ret
  exact ⟨congrArg (fun b => Ending.returned (.string b)) HR.out, hB⟩

set_option maxHeartbeats 1000000 in
theorem printWord_false {c n p : Int} {s : ByteArray} {l : List (Int × Int)} {tc tn : Int} {w : World} {a : Option Addr} {m cap : Nat} (h0 : 0 ≤ tc) (h1 : tc ≤ 1048576) (h2 : 0 ≤ tn) (h3 : tn ≤ 1048576) (hp : Pow w) :
    Calls Tryd.prog 13 #[opVal ⟨c, n, 4, p, s, l, tc, tn, false⟩ (.slice a m cap)] w fun e w' => e = .returned (.string (bs ([111, 102, 102, 32] ++ idB tc tn))) ∧ Below w.heap.size w w' := by
  have HP : Hid (∀ w' : World, Below w.heap.size w w' → Calls Tryd.prog 12 #[.agg #[.int .i64 tc, .int .i64 tn]] w' fun e w'' => e = .returned (.string (bs (idB tc tn))) ∧ Below w'.heap.size w' w'') := fun w' hb => printID_any h0 h1 h2 h3 w' (hp.below hb)
  have q1 : (bs (idB tc tn)).size ≤ 100 := by rw [bs_size]; exact idB_length h0 h1 h2 h3
  have HR : Hid ((⟨#[111, 102, 102, 32]⟩ : ByteArray) ++ bs (idB tc tn) = bs ([111, 102, 102, 32] ++ idB tc tn)) := by
    show _ = _
    rw [← bs_append]
    rfl
  clear h0 h1 h2 h3 hp
  generalize bs (idB tc tn) = x at *
  simp only [opVal]
  have hw2 := (Below.refl w.heap.size w).alloc (Nat.le_refl _) (Obj.cells #[.int .i64 c, .int .i64 n, .int .i64 4, .int .i64 p, .string s, .slice a m cap, .int .i64 tc, .int .i64 tn, .bool false] 34)
  go_enter Tryd.func13, Tryd.ntmps13
  go_wp2_with fail
  refine (HP.out _ hw2).mono ?_
  rintro e w1 ⟨rfl, hb1⟩
  have hB := hw2.trans (hb1.mono hw2.size)
  clear hw2 hb1 HP
  have g1 : ¬ 9223372036854775807 < 4 + x.size := by omega
  go_wp2_with fail
  go_ret
  exact ⟨congrArg (fun b => Ending.returned (.string b)) HR.out, hB⟩

def wordB (o : OpV) : List UInt8 :=
  if o.k = 1 then insB o.p o.s else if o.k = 2 then [104, 105, 100, 101, 32] ++ rngB o.l else if o.k = 3 then [115, 104, 111, 119, 32] ++ rngB o.l
  else if o.on = true then [111, 110, 32] ++ idB o.tc o.tn else [111, 102, 102, 32] ++ idB o.tc o.tn
def printP (o : OpV) : List UInt8 := idB o.c o.n ++ [32] ++ wordB o
/-- What an operation without an error of its own is. -/
structure Right (o : OpV) : Prop where
  kind : 1 ≤ o.k ∧ o.k ≤ 4
  id : (o.c = 0 ∧ o.n = 0) ∨ isIdP o.c o.n = true
  extra : extra o = false
  ins : o.k = 1 → 0 ≤ o.p ∧ o.p ≤ 1048576 ∧ insP o o.p = 0
  rng : o.k = 2 ∨ o.k = 3 → o.l ≠ [] ∧ Sp.Lst o.l
  tgt : o.k = 4 → isIdP o.tc o.tn = true ∧ ¬ (o.tc = o.c ∧ o.tn = o.n)
theorem insP_code (o : OpV) (t : Int) (h : insP o t = 0) : 0 ≤ o.p ∧ o.p ≤ t ∧ (check o.s).2.2 = 0 ∧ (check o.s).1 ≠ 0 ∧ (check o.s).1 ≤ 256 ∧ t + (check o.s).1 ≤ 1048576 := by
  unfold insP at h
  split at h
  · exact absurd h (by assumption)
  split at h
  · cases h
  split at h
  · cases h
  split at h
  · cases h
  split at h
  · cases h
  omega
theorem opCheck_zero {o : OpV} {t : Int} (h : opCheck o t = 0) : 0 ≤ t ∧ t ≤ 1048576 ∧ (1 ≤ o.k ∧ o.k ≤ 4) ∧ ((o.c = 0 ∧ o.n = 0) ∨ isIdP o.c o.n = true) ∧ Go.Proofs.YtajnadcinegmjaaDoor.extra o = false ∧ (o.k = 1 → insP o t = 0) ∧ (o.k = 2 ∨ o.k = 3 → rngP o t = 0) ∧ (o.k = 4 → tgtP o = 0) := by
  unfold opCheck at h
  split at h
  · cases h
  split at h
  · cases h
  split at h
  · cases h
  rename_i h1 h2 h3
  have hI : (o.c = 0 ∧ o.n = 0) ∨ isIdP o.c o.n = true := by
    by_cases hz : o.c = 0 ∧ o.n = 0
    · exact .inl hz
    · right
      cases hb : isIdP o.c o.n with
      | true => rfl
      | false => exact absurd ⟨hz, hb⟩ h3
  split at h
  · cases h
  rename_i h4
  refine ⟨by omega, by omega, by omega, hI, by simpa using h4, fun e => ?_, fun e => ?_, fun e => ?_⟩
  · rw [if_pos e] at h; exact h
  · rw [if_neg (by omega), if_neg (by omega)] at h; exact h
  · rw [if_neg (by omega), if_pos e] at h; exact h
theorem right_of {o : OpV} (h : ownP o = 0) : Right o := by
  unfold ownP at h
  have key : ∀ t, opCheck o t = 0 → (o.k = 1 → 0 ≤ o.p ∧ o.p ≤ 1048576 ∧ insP o o.p = 0) → Right o := fun t ht hi => by
    obtain ⟨_, _, h2, h3, h4, h5, h6, h7⟩ := opCheck_zero ht
    refine ⟨h2, h3, h4, hi, fun e => ?_, fun e => ?_⟩
    · have := h6 e
      unfold rngP at this
      split at this
      · cases this
      rename_i hn
      split at this
      · rename_i hc; exact absurd this hc
      rename_i hc
      exact ⟨hn, Sp.checkL_ok (by simpa using hc)⟩
    · have := h7 e
      unfold tgtP at this
      split at this
      · cases this
      rename_i hn
      refine ⟨?_, fun hh => hn (.inr hh)⟩
      cases hb : isIdP o.tc o.tn with
      | true => rfl
      | false => exact absurd (.inl hb) hn
  split at h
  · rename_i hc
    refine key _ h fun e => ⟨hc.2.1, hc.2.2, ?_⟩
    exact (opCheck_zero h).2.2.2.2.2.1 e
  · rename_i hc
    refine key _ h fun e => ?_
    have h1 := (opCheck_zero h).2.2.2.2.2.1 e
    have h2 := insP_code _ _ h1
    exact absurd ⟨e, h2.1, h2.2.1⟩ hc
end Go.Proofs.YtajnadcinegmjaaDoor
