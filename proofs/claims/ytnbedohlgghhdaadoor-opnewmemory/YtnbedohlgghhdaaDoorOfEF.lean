import Derived.Test.YtnbedohlgghhdaaDoorOfC
import Derived.Test.YtnbedohlgghhdaaDoorOfD
/-! What OpNewMemory calls. -/
namespace Go.Proofs.YtnbedohlgghhdaaDoor
open Go.RowKit Go.Lib Sp
set_option maxRecDepth 100000

/-- An operation that right makes, whatever its number. -/
structure SaneN (o : OpV) : Prop where
  own : ownP o = 0
  size : o.s.size ≤ 1024
  kind : 1 ≤ o.k ∧ o.k ≤ 3
  few : o.l.length ≤ 1000
  cov : coveredP o ≠ [] ∧ (coveredP o).length ≤ 1000
theorem saneN_ins {c p : Int} {rs : List Int} (hc : 1 ≤ c ∧ c ≤ 8) (hp : 0 ≤ p ∧ p ≤ 1000) (hne : rs ≠ []) (hle : rs.length ≤ 256) (hok : ∀ r ∈ rs, okL r) : SaneN ⟨c, 1, 1, p, bs (encs rs), [], 0, 0, false⟩ := by
  have hck := (text_own hok).check
  have hpos := List.length_pos_iff.2 hne
  have hsz := encs_size rs
  refine ⟨?_, by simp only; omega, by simp, by simp, by simp [coveredP]⟩
  unfold ownP
  rw [if_pos ⟨rfl, hp.1, by simp only; omega⟩]
  show opCheck ⟨c, 1, 1, p, bs (encs rs), [], 0, 0, false⟩ p = 0
  exact insOk (.inr (decide_eq_true (by omega))) (by omega) hck (by omega) (by omega) (by omega) (by omega)
theorem saneN_rng {c k : Int} {l : List (Int × Int)} {t : Nat} (hc : 1 ≤ c ∧ c ≤ 8) (hk : k = 2 ∨ k = 3) (ht : t ≤ 1000) (hn : Sp.Norm (-1) l) (htop : ∀ r ∈ l, r.2 ≤ (t : Int)) (hne : l ≠ []) (hle : l.length ≤ t) : SaneN ⟨c, 1, k, 0, ⟨#[]⟩, l, 0, 0, false⟩ := by
  have hL : Sp.Lst l := ⟨hn, fun r hr => by have := htop r hr; omega, by omega⟩
  have hcv : coveredP ⟨c, 1, k, 0, ⟨#[]⟩, l, 0, 0, false⟩ = l := by unfold coveredP; rw [if_neg (by simp only; omega)]
  refine ⟨?_, by simp [ByteArray.size], by simp only; omega, by simp only; omega, by rw [hcv]; exact ⟨hne, by omega⟩⟩
  unfold ownP
  rw [if_neg (by simp only; omega), opCheck_rng hk (by omega) (.inr (decide_eq_true (by omega)))]
  unfold rngP
  have h1 := lastHi_le hne (fun r hr => hL.top r hr)
  rw [if_neg (by simpa using hne)]
  simp only [hL.check]
  rw [if_neg (by simp), if_neg (by omega)]
theorem right_num {dk dp : Int} {ta pa : Option Addr} {tn_ tcap pn pcap : Nat} {zs ys : List Int} {w : World} (hT : Rw rune1 1 w ta tn_ tcap zs) (hP : Rw int1 1 w pa pn pcap ys) (t : Nat) (ht : t ≤ 1000) (k : Int) :
    Calls Tryd.prog 4 #[deedV dk dp (.slice ta tn_ tcap) (.slice pa pn pcap), .int .i64 (t : Int), .int .i64 k] w fun e w' => ∃ o a m cap, e = .returned (opVal o (.slice a m cap)) ∧ SaneN o ∧ Rng w' a m cap o.l ∧ (∀ g off, a = some ⟨g, off, none⟩ → w.heap.size ≤ g) ∧ Below w.heap.size w w' := by
  have b0 := Int.emod_nonneg k (show (8 : Int) ≠ 0 by decide)
  have b1 := Int.emod_lt_of_pos k (show (0 : Int) < 8 by decide)
  by_cases hk : dk % 3 = 0 ∨ t = 0 ∨ pn = 0
  · refine (right_ins hT t (by omega) k hk).mono ?_
    rintro e w' ⟨rs, rfl, hne, hle, hok, hb⟩
    have p0 := Int.emod_nonneg dp (show (t : Int) + 1 ≠ 0 by omega)
    have p1 := Int.emod_lt_of_pos dp (show (0 : Int) < (t : Int) + 1 by omega)
    exact ⟨_, none, 0, 0, rfl, saneN_ins (by omega) (by omega) hne hle hok, rng_of_rw (rw_nil _), fun g off e => by simp at e, hb⟩
  · have d0 := Int.emod_nonneg dk (show (3 : Int) ≠ 0 by decide)
    have d1 := Int.emod_lt_of_pos dk (show (0 : Int) < 3 by decide)
    have hk2 : dk % 3 = 1 ∨ dk % 3 = 2 := by omega
    rcases hk2 with hk2 | hk2
    · refine (right_hide hP t (by omega) (by omega) k hk2 (by omega)).mono ?_
      rintro e w' ⟨a, m, cap, l, rfl, hr, ha, hn, htop, hne, hle, hb⟩
      exact ⟨_, a, m, cap, rfl, saneN_rng (by omega) (.inl rfl) ht hn htop hne hle, hr, ha, hb⟩
    · refine (right_show hP t (by omega) (by omega) k hk2 (by omega)).mono ?_
      rintro e w' ⟨a, m, cap, l, rfl, hr, ha, hn, htop, hne, hle, hb⟩
      exact ⟨_, a, m, cap, rfl, saneN_rng (by omega) (.inr rfl) ht hn htop hne hle, hr, ha, hb⟩
theorem printP_len {o : OpV} (h : SaneN o) : (printP o).length ≤ 1048576 := by
  have hR := right_of h.own
  have hid := idP_bd hR.id
  have h1 := idB_length hid.1 hid.2.1 hid.2.2.1 hid.2.2.2
  have h2 : (wordB o).length ≤ 100000 := by
    have hk := h.kind
    unfold wordB
    split
    · rename_i e
      have q1 := quoted_le o.s
      have q2 := hR.ins e
      have q3 := Lib.itoa_length_le o.p (by omega) (by omega)
      have q4 := h.size
      unfold insB
      simp only [List.length_append, List.length_cons, List.length_nil]; omega
    have hr : o.k = 2 ∨ o.k = 3 → (rngB o.l).length ≤ 50000 := fun e => by
      have q1 := (hR.rng e).2
      have q2 := rngB_length (lst_places q1)
      have q3 := h.few
      omega
    split
    · rename_i e
      have := hr (.inl e)
      simp only [List.length_append, List.length_cons, List.length_nil]; omega
    split
    · rename_i e
      have := hr (.inr e)
      simp only [List.length_append, List.length_cons, List.length_nil]; omega
    omega
  unfold printP
  simp only [List.length_append, List.length_cons, List.length_nil]
  omega
theorem parse_sane {o : OpV} (h : SaneN o) (w : World) (hw : Bar w) (hp : Pow w) (hd : Deb w) (he : Errs w) :
    Calls Tryd.prog 10 #[.string (bs (printP o))] w fun e w' => ∃ a m cap, e = .returned (.tuple #[opVal o (.slice a m cap), .int .i64 0]) ∧ m = o.l.length ∧ OwnF rangeV 2 60 w' w.heap.size (.slice a m cap) o.l ∧ Below w.heap.size w w' := by
  have hr := read_print (right_of h.own)
  refine (parse_yes (printP o) (printP_len h) (taken_print h.own) w hw hp hd he).mono ?_
  rw [hr]
  rintro e w' ⟨a, m, cap, rfl, hR, ho, hb⟩
  exact ⟨a, m, cap, rfl, hR.len.symm, ho, hb⟩
theorem inverse_sane {o : OpV} (h : SaneN o) {w : World} {a : Option Addr} {m cap : Nat} (hr : Rng w a m cap o.l) (hw : Bar w) :
    Calls Tryd.prog 9 #[opVal o (.slice a m cap)] w fun e w' => ∃ o' a' m' cap', e = .returned (.tuple #[opVal o' (.slice a' m' cap'), .int .i64 0]) ∧ m' = (coveredP o).length ∧ OwnF rangeV 2 60 w' w.heap.size (.slice a' m' cap') (coveredP o) ∧ Below w.heap.size w w' := by
  have hk := h.kind
  have hs := h.size
  have hf := h.few
  have hl := hr.len
  have hown := h.own
  obtain ⟨c, n, k, p, s, l, tc, tn, on⟩ := o
  simp only at hk hs hf hr hl
  have hk3 : k = 1 ∨ k = 2 ∨ k = 3 := by omega
  rcases hk3 with rfl | rfl | rfl
  · refine (inverse_1 hr (by omega) (by omega) hw hown).mono ?_
    rintro e w' ⟨a', m', cap', rfl, ho, hb⟩
    exact ⟨_, a', m', cap', rfl, (ho.rw_ layG).len.symm, ho.mono (by omega), hb⟩
  · refine (inverse_2 hr (by omega) (by omega) hw hown).mono ?_
    rintro e w' ⟨a', m', cap', rfl, ho, hb⟩
    exact ⟨_, a', m', cap', rfl, (ho.rw_ layG).len.symm, ho.mono (by omega), hb⟩
  · refine (inverse_3 hr (by omega) (by omega) hw hown).mono ?_
    rintro e w' ⟨a', m', cap', rfl, ho, hb⟩
    exact ⟨_, a', m', cap', rfl, (ho.rw_ layG).len.symm, ho.mono (by omega), hb⟩
set_option maxHeartbeats 2000000 in
theorem covers_sane {o : OpV} (h : SaneN o) {w : World} {a : Option Addr} {m cap : Nat} (hr : Rng w a m cap o.l) (hw : Bar w) :
    Calls Tryd.prog 8 #[opVal o (.slice a m cap)] w fun e w' => ∃ a' m' cap', e = .returned (.slice a' m' cap') ∧ m' = (coveredP o).length ∧ OwnF rangeV 2 60 w' w.heap.size (.slice a' m' cap') (coveredP o) ∧ Below w.heap.size w w' := by
  have hl := hr.len
  have hf := h.few
  have hsz := h.size
  have HO : Hid (∀ w' : World, Below w.heap.size w w' → Calls Tryd.prog 15 #[opVal o (.slice a m cap)] w' fun e w'' => e = .returned (.int .i64 0) ∧ Below w'.heap.size w' w'') := fun w' hb => by
    have := ownError_any (o := o) (hr.below hb) (by omega) (hw.below hb)
    rw [h.own] at this
    exact this
  have HV : Hid (∀ w' : World, Below w.heap.size w w' → Calls Tryd.prog 20 #[opVal o (.slice a m cap)] w' fun e w'' => ∃ v, e = .returned v ∧ OwnF rangeV 2 60 w'' (w'.heap.size + 1) v (coveredP o) ∧ Below w'.heap.size w' w'') := fun w' hb => covered_any (o := o) (hr.below hb) (by omega) (by omega) (hw.below hb) (right_of h.own)
  clear hr hw h
  generalize coveredP o = CV at *
  obtain ⟨c, n, k, p, s, l, tc, tn, on⟩ := o
  simp only [opVal] at *
  have hX : Below w.heap.size w (w.alloc (Obj.cells #[.int .i64 c, .int .i64 n, .int .i64 k, .int .i64 p, .string s, .slice a m cap, .int .i64 tc, .int .i64 tn, .bool on] 38)) := (Below.refl w.heap.size w).alloc (Nat.le_refl _) _
  have y0 : (w.alloc (Obj.cells #[.int .i64 c, .int .i64 n, .int .i64 k, .int .i64 p, .string s, .slice a m cap, .int .i64 tc, .int .i64 tn, .bool on] 38)).heap[w.heap.size]? = some (Obj.cells #[.int .i64 c, .int .i64 n, .int .i64 k, .int .i64 p, .string s, .slice a m cap, .int .i64 tc, .int .i64 tn, .bool on] 38) := alloc_last _ _ _ rfl
  go_enter Tryd.func8, Tryd.ntmps8
  go_wp2_with fail
  refine (HO.out _ hX).mono ?_
  rintro e w1 ⟨rfl, hb1⟩
  have hB1 := hX.trans (hb1.mono hX.size)
  have y1 := (hb1.block _ (Array.getElem?_eq_some_iff.1 y0).1).trans y0
  obtain ⟨f0, f1, f2, f3, f4, f5, f6, f7, f8⟩ := box9 y1
  clear hX y0 hb1 HO
  go_wp2_with fail
  refine (HV.out _ hB1).mono ?_
  rintro e w2 ⟨v, rfl, ho, hb2⟩
  obtain ⟨a', cap', rfl⟩ := ho.shape
  have hB2 := hB1.trans (hb2.mono hB1.size)
  have hs1 := hB1.size
  have HO2 := ho.mono (C := w.heap.size) (by omega)
  clear ho hb2 hB1 HV f0 f1 f2 f3 f4 f5 f6 f7 f8 y1
  go_wp2_with fail
  go_ret
  exact ⟨a', _, cap', rfl, rfl, HO2, hB2⟩
theorem clone_sane {o : OpV} (h : SaneN o) {w : World} {a : Option Addr} {m cap : Nat} (hr : Rng w a m cap o.l) :
    Calls Tryd.prog 6 #[opVal o (.slice a m cap)] w fun e w' => ∃ a' cap', e = .returned (opVal o (.slice a' m cap')) ∧ OwnF rangeV 2 60 w' w.heap.size (.slice a' m cap') o.l ∧ Below w.heap.size w w' := by
  have hl := hr.len
  have hf := h.few
  have hs := h.size
  refine (opClone_any (o := o) hr (by omega) (by omega)).mono ?_
  rintro e w' ⟨a', cap', rfl, ho, hb⟩
  exact ⟨a', cap', rfl, ho.mono (by omega), hb⟩
end Go.Proofs.YtnbedohlgghhdaaDoor

/-! Where OpNewMemory stands. -/
namespace Go.Proofs.YtnbedohlgghhdaaDoor
open Go.RowKit Go.Lib Sp
set_option maxRecDepth 100000

/-- A round of OpNewMemory: the book, the operation in its box, and what is as it was. -/
structure St (w XK : World) (bb b5 R R2 : Nat) (o : OpV) (a : Option Addr) (m cap : Nat) (C : World) (vg vw : Value) (mk : Int) (G : List ((((Option Addr × Nat × Nat)) × ((Option Addr × Nat × Nat))) × List (Int × Int))) : Prop where
  book : Book C bb vg vw mk G
  box : C.heap[b5]? = some (.cells #[.int .i64 o.c, .int .i64 o.n, .int .i64 o.k, .int .i64 o.p, .string o.s, .slice a m cap, .int .i64 o.tc, .int .i64 o.tn, .bool o.on] 38)
  rng : Rng C a m cap o.l
  bw : Below w.heap.size w C
  cx : Chg (fun g => g = bb) XK C
  gge : ∀ g, vg.ownBlock = some g → XK.heap.size ≤ g ∧ (g < R ∨ R2 ≤ g)
  wge : ∀ g, vw.ownBlock = some g → XK.heap.size ≤ g ∧ (g < R ∨ R2 ≤ g)
  size : R2 ≤ C.heap.size
  nums : w.heap.size ≤ bb ∧ bb < XK.heap.size ∧ XK.heap.size ≤ R ∧ R ≤ b5 ∧ b5 < R2
  at_ : ∀ g off, a = some ⟨g, off, none⟩ → 0 < m → R ≤ g ∧ g < R2
variable {w XK : World} {bb b5 R R2 : Nat} {o : OpV} {a : Option Addr} {m cap : Nat} {C : World} {vg vw : Value} {mk : Int} {G : List ((((Option Addr × Nat × Nat)) × ((Option Addr × Nat × Nat))) × List (Int × Int))}
theorem St.below (h : St w XK bb b5 R R2 o a m cap C vg vw mk G) {C' : World} (hb : Below C.heap.size C C') : St w XK bb b5 R R2 o a m cap C' vg vw mk G :=
  ⟨h.book.below hb, (hb.block _ (Array.getElem?_eq_some_iff.1 h.box).1).trans h.box, h.rng.below hb, h.bw.trans (hb.mono h.bw.size), h.cx.trans (Chg.of_below hb), h.gge, h.wge, Nat.le_trans h.size hb.size, h.nums, h.at_⟩
theorem rng_chg {D : Nat → Prop} {W W' : World} {a : Option Addr} {m cap : Nat} {l : List (Int × Int)} (h : Rng W a m cap l) (hC : Chg D W W') (hd : ∀ g off, a = some ⟨g, off, none⟩ → 0 < m → ¬ D g) : Rng W' a m cap l :=
  ⟨h.len, h.room, fun j hj => by
    obtain ⟨g, off, ha, hg, h1, h2⟩ := h.cells j hj
    have hq := hC.2 g hg (hd g off ha (by omega))
    refine ⟨g, off, ha, Nat.lt_of_lt_of_le hg hC.size, ?_, ?_⟩
    · rw [← h1]; simp only [World.cell?, hq]
    · rw [← h2]; simp only [World.cell?, hq]⟩
theorem St.take (h : St w XK bb b5 R R2 o a m cap C vg vw mk G) {a' : Option Addr} {n' cap' : Nat} {C' : World} (hT : takeP C bb vg vw mk G a' n' cap' C') (hl : ∀ g, (Value.slice a' n' cap').ownBlock = some g → R2 ≤ g) :
    ∃ vg' vw' G', St w XK bb b5 R R2 o a m cap C' vg' vw' (mk + 1) G' ∧ G'.length = G.length + 2 ∧ ∀ x ∈ G', x ∈ G ∨ PairIn (fun g => (Value.slice a' n' cap').ownBlock = some g ∨ C.heap.size ≤ g) x := by
  obtain ⟨vg', vw', x1, x2, x3, M1, M2, hB, hC, h1, h2, hnew⟩ := hT
  obtain ⟨n1, n2, n3, n4, n5⟩ := h.nums
  have hs := h.size
  have key : ∀ g, R ≤ g → g < R2 → ¬ TakeD bb vg vw (.slice a' n' cap') g := fun g q1 q2 e => by
    rcases e with e | e | e | e
    · omega
    · have := (h.gge g e).2; omega
    · have := (h.wge g e).2; omega
    · have := hl g e; omega
  refine ⟨vg', vw', _, ⟨hB, hC.block h.box (key b5 n4 n5), rng_chg h.rng hC (fun g off e h0 => key g (h.at_ g off e h0).1 (h.at_ g off e h0).2), ?_, ?_, ?_, ?_, Nat.le_trans hs hC.size, h.nums, h.at_⟩, by simp, fun x hx => (List.mem_append.1 hx).imp id (hnew x)⟩
  · refine h.bw.trans (Chg.below hC (fun g e => ?_) h.bw.size)
    rcases e with e | e | e | e
    · omega
    · have := (h.gge g e).1; omega
    · have := (h.wge g e).1; omega
    · have := hl g e; omega
  · refine ⟨h.cx.1.trans hC.1, fun g hg hd => (hC.2 g (Nat.lt_of_lt_of_le hg h.cx.size) (fun e => ?_)).trans (h.cx.2 g hg hd)⟩
    rcases e with e | e | e | e
    · exact hd e
    · have := (h.gge g e).1; omega
    · have := (h.wge g e).1; omega
    · have := hl g e; omega
  · intro g hg
    rcases h1 g hg with e | e
    · exact h.gge g e
    · exact ⟨by omega, .inr (by omega)⟩
  · intro g hg
    rcases h2 g hg with e | e
    · exact h.wge g e
    · exact ⟨by omega, .inr (by omega)⟩
/-- take, where the list lies apart from the book. -/
theorem St.takes (h : St w XK bb b5 R R2 o a m cap C vg vw mk G) (hmk : 0 ≤ mk) (hmk2 : mk ≤ 1000000) (hG : G.length ≤ 100000) {B0 : Nat} (hs0 : R2 ≤ B0) {a' : Option Addr} {n' cap' : Nat} {l : List (Int × Int)} (hl : OwnF rangeV 2 60 C B0 (.slice a' n' cap') l) (hn : n' ≤ 1000000)
    (hfr : ∀ x ∈ G, PairIn (fun g => (Value.slice a' n' cap').ownBlock ≠ some g) x) :
    Calls Tryd.prog 7 #[.pointer (some ⟨bb, 0, none⟩), .slice a' n' cap'] C fun e C' => (∃ v, e = .returned v) ∧ (∃ vg' vw' G', St w XK bb b5 R R2 o a m cap C' vg' vw' (mk + 1) G' ∧ G'.length = G.length + 2 ∧ ∀ x ∈ G', x ∈ G ∨ PairIn (fun g => (Value.slice a' n' cap').ownBlock = some g ∨ C.heap.size ≤ g) x) ∧ Chg (TakeD bb vg vw (.slice a' n' cap')) C C' := by
  refine (take_any h.book hmk hmk2 hG hl hn hfr).mono ?_
  rintro e C' ⟨hv, hT⟩
  refine ⟨hv, h.take hT (fun g hg => ?_), ?_⟩
  · have := hl.ge hg; omega
  · obtain ⟨_, _, _, _, _, _, _, _, hC, _, _⟩ := hT
    exact hC
theorem St.pairs (h : St w XK bb b5 R R2 o a m cap C vg vw mk G) : ∀ x ∈ G, PairIn (fun g => g < C.heap.size) x := fun x hx => ⟨fun _ _ e h0 => (h.book.rd x hx).1.lt e h0, fun _ _ e h0 => (h.book.rd x hx).2.lt e h0⟩
theorem PairIn.mono {D E : Nat → Prop} {x : ((Option Addr × Nat × Nat) × (Option Addr × Nat × Nat)) × List (Int × Int)} (h : PairIn D x) (hd : ∀ g, D g → E g) : PairIn E x := ⟨fun g off e h0 => hd g (h.1 g off e h0), fun g off e h0 => hd g (h.2 g off e h0)⟩
end Go.Proofs.YtnbedohlgghhdaaDoor
