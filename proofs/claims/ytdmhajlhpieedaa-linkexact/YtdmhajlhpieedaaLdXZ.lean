import Derived.Test.YtdmhajlhpieedaaLdW
/-! Both links and the book; plays of a Deliver. -/
namespace Go.Proofs.Ytdmhajlhpieedaa
open Go.RowKit Go.Lib Go.Shelf
set_option maxRecDepth 100000

/-- A link, the reference's, and the book, all apart. -/
structure Trio (K J C : Nat → Prop) (W : World) (q r h : Nat) (S : Lk) (gv wv lv : Value) (gs : List Br) (ls : List Fs) : Prop where
  duo : Duo K J W q r S
  bk : Bk C W h gv wv lv gs ls
  ap : ∀ g, C g → ¬ K g ∧ ¬ J g
/-- What a step leaves of them. -/
def TriP (K J C : Nat → Prop) (W : World) (q r h : Nat) (S' : Lk) (ng nl : Nat) (W' : World) : Prop := ∃ K' J' C' gv wv lv gs ls, Trio K' J' C' W' q r h S' gv wv lv gs ls ∧ (∀ g, K' g ∨ J' g ∨ C' g → (K g ∨ J g ∨ C g) ∨ W.heap.size ≤ g) ∧ Chg (fun g => K g ∨ J g ∨ C g) W W' ∧ gs.length ≤ ng ∧ ls.length ≤ nl ∧ ls.length % 2 = 0
section
variable {K J C : Nat → Prop} {W : World} {q r h : Nat} {S S' : Lk} {gv wv lv : Value} {gs : List Br} {ls : List Fs}
theorem Trio.duoP {W' : World} (T : Trio K J C W q r h S gv wv lv gs ls) (hev : ls.length % 2 = 0) (hp : DuoP K J W q r S' W') : TriP K J C W q r h S' gs.length ls.length W' := by
  obtain ⟨K', J', h1, h2, h3, h4⟩ := hp
  refine ⟨K', J', C, gv, wv, lv, gs, ls, ⟨h1, T.bk.chg h4 (fun g hg e => e.elim (T.ap g hg).1 (T.ap g hg).2), fun g hg => ⟨fun e => ?_, fun e => ?_⟩⟩, fun g hg => ?_, h4.mono (fun g _ e => e.elim .inl (fun e => .inr (.inl e))), Nat.le_refl _, Nat.le_refl _, hev⟩
  · rcases h2 g e with e | e
    · exact (T.ap g hg).1 e
    · have := T.bk.lt g hg; omega
  · rcases h3 g e with e | e
    · exact (T.ap g hg).2 e
    · have := T.bk.lt g hg; omega
  · rcases hg with e | e | e
    · exact (h2 g e).imp .inl id
    · exact (h3 g e).imp (fun e => .inr (.inl e)) id
    · exact .inl (.inr (.inr e))
theorem Trio.below {W' : World} (T : Trio K J C W q r h S gv wv lv gs ls) (hB : Below W.heap.size W W') : Trio K J C W' q r h S gv wv lv gs ls := ⟨T.duo.below hB, T.bk.below hB, T.ap⟩
theorem TriP.from {W0 W' : World} {ng nl : Nat} (hB : Below W0.heap.size W0 W) (hp : TriP K J C W q r h S' ng nl W') : TriP K J C W0 q r h S' ng nl W' := by
  obtain ⟨K', J', C', gv, wv, lv, gs, ls, h1, h2, h3, h4⟩ := hp
  have := hB.size
  exact ⟨K', J', C', gv, wv, lv, gs, ls, h1, fun g hg => (h2 g hg).imp id (fun e => by omega), (Chg.of_below hB).trans h3, h4⟩
end
theorem OwnF.hnd {W : World} {a : Option Addr} {n c : Nat} {bs : List UInt8} (h : OwnF byU 1 5 W 0 (.slice a n c) bs) (hn : bs.length = n) : Hnd W a n c := by
  rcases h.offF with ⟨e, rfl⟩ | ⟨g, pre, post, cap, e, hh, hp, h1, h2⟩
  · simp only [Value.slice.injEq] at e
    exact .inl ⟨e.1, e.2.1, e.2.2⟩
  · simp only [Value.slice.injEq] at e
    obtain ⟨rfl, _, rfl⟩ := e
    exact .inr ⟨g, pre, post, bs, rfl, hn, hh, h1, by omega, h2⟩
/-- What Deliver of number k hands out. -/
structure Dv where
  num : Int
  fr : Int
  tt : Int
  bs : List UInt8
  sp : Bool
def dv (S : Lk) (k : Int) : Dv := match hitF S k with
  | none => ⟨0, 0, 0, [], false⟩
  | some f => ⟨f.num, f.fr, f.tt, f.bs, f.sp⟩
theorem delN {S : Lk} {k : Int} (h : hitF S k = none) : delS S k = S := by
  unfold hitF at h
  unfold delS
  rw [List.find?_eq_none] at h
  have : S.fl.filter (fun f => decide ((f.num : Int) ≠ k)) = S.fl := by
    rw [List.filter_eq_self]
    intro f hf
    have := h f hf
    simpa using this
  rw [this]
/-- The program's answer, in either case. -/
def Dl1 (K : Nat → Prop) (W : World) (q : Nat) (S' : Lk) (d : Dv) (a : Option Addr) (n c : Nat) (W' : World) : Prop := d.bs.length = n ∧ OwnF byU 1 5 W' 0 (.slice a n c) d.bs ∧ (∀ g, (Value.slice a n c).ownBlock = some g → K g) ∧ LnkK (fun g => grow K W W' g ∧ (Value.slice a n c).ownBlock ≠ some g) W' q S' ∧ Chg K W W'
theorem HandK.dl {K : Nat → Prop} {W W' : World} {q : Nat} {S : Lk} {k : Int} {v : Value} (h : HandK W q S k v K W') : ∃ a c, v = .agg #[.int .i64 (dv S k).num, .int .i64 (dv S k).fr, .int .i64 (dv S k).tt, .slice a (dv S k).bs.length c, .bool (dv S k).sp] ∧ Dl1 K W q (delS S k) (dv S k) a (dv S k).bs.length c W' := by
  rcases h with ⟨h1, h2, h3, h4⟩ | ⟨x, h1, h2, h3, h4, h5, h6⟩
  · have e : dv S k = ⟨0, 0, 0, [], false⟩ := by unfold dv; rw [h1]
    rw [e]
    refine ⟨none, 0, h2, rfl, ownF_nil W' 0, fun g hg => by simp [Value.ownBlock] at hg, ?_, h4⟩
    rw [delN h1]
    obtain ⟨hO, rv, xs, hL, hK⟩ := h3
    exact ⟨hO, rv, xs, hL, fun g hg => ⟨hK g hg, by simp [Value.ownBlock]⟩⟩
  · have e : dv S k = ⟨x.fg.num, x.fg.fr, x.fg.tt, x.fg.bs, x.fg.sp⟩ := by unfold dv; rw [h1]
    rw [e]
    exact ⟨x.a, x.cap, h2, rfl, h3, h4, h5, h6⟩
theorem rdl {K : Nat → Prop} {W : World} {q : Nat} {S : Lk} (h : RefK K W q S) (k : Int) (hb : ∀ f ∈ S.fl, f.bs.length ≤ 140737488355328) : Calls Try.prog 35 #[.pointer (some ⟨q, 0, none⟩), .int .i64 k] W fun e w' => ∃ a' c', e = .returned (.tuple #[.agg #[.int .i64 (dv S k).num, .int .i64 (dv S k).fr, .int .i64 (dv S k).tt, .slice a' (dv S k).bs.length c', .bool (dv S k).sp], .int .i64 (dropE S k)]) ∧ RLft K W q (delS S k) w' ∧ Rw byU 1 w' a' (dv S k).bs.length c' (dv S k).bs := by
  refine (rdeliverK h k hb).mono ?_
  rintro e w' ⟨v, h1, h2, h3⟩
  rcases h3 with ⟨h3, rfl⟩ | ⟨f, a', c', h3, rfl, h4⟩
  · have e : dv S k = ⟨0, 0, 0, [], false⟩ := by unfold dv; rw [h3]
    rw [e]
    exact ⟨none, 0, h1, h2, rw_nil _⟩
  · have e : dv S k = ⟨f.num, f.fr, f.tt, f.bs, f.sp⟩ := by unfold dv; rw [h3]
    rw [e]
    exact ⟨a', c', h1, h2, h4⟩
theorem dl_mem {K J C : Nat → Prop} {W W1 w2 V2 w3 w4 : World} {q r h : Nat} {S S' : Lk} {gv wv lv : Value} {gs : List Br} {ls : List Fs} {d : Dv} {a : Option Addr} {n c : Nat} (T : Trio K J C W q r h S gv wv lv gs ls) (hev : ls.length % 2 = 0) (hB1 : Below W.heap.size W W1) (hD : Dl1 K W1 q S' d a n c w2) (hV2 : Below w2.heap.size w2 V2) (hR : RLft J V2 r S' w3) (hB4 : Below w3.heap.size w3 w4) :
    Hnd w4 a n c ∧ Bk C w4 h gv wv lv gs ls ∧ (∀ b ∈ gs, ∀ p, b.a = some p → ∀ q, a = some q → p.block = q.block → b.bs.length = 0 ∨ p.off + b.bs.length ≤ q.off ∨ q.off + c ≤ p.off) ∧ OwnF byU 1 5 w3 0 (.slice a n c) d.bs ∧ ∀ w5, TakP C w4 h lv gs ls a n c w5 → TriP K J C W q r h S' (gs.length + 2) ls.length w5 := by
  obtain ⟨hn, hO2, hoK, hL2, hC2⟩ := hD
  obtain ⟨hRf, hC3⟩ := hR
  have s1 := hB1.size
  have s2 := hC2.size
  have sV := hV2.size
  have s3 := hC3.size
  have s4 := hB4.size
  have hbA : ∀ p, a = some p → K p.block := fun p hp => hoK p.block (by subst hp; rfl)
  have nJ : ∀ g, grow K W1 w2 g → ¬ J g := fun g hg hj => by
    rcases hg with hg | hg
    · exact T.duo.kj g hg hj
    · have := T.duo.jl g hj; omega
  have hOV : OwnF byU 1 5 V2 0 (.slice a n c) d.bs := hO2.chg (D := fun g => w2.heap.size ≤ g) (Chg.of_below hV2) (fun g hg e => by have := T.duo.kl g (hoK g hg); omega)
  have hO3 : OwnF byU 1 5 w3 0 (.slice a n c) d.bs := hOV.chg hC3 (fun g hg e => T.duo.kj g (hoK g hg) e)
  have hO4 : OwnF byU 1 5 w4 0 (.slice a n c) d.bs := hO3.chg (D := fun g => w3.heap.size ≤ g) (Chg.of_below hB4) (fun g hg e => by have := T.duo.kl g (hoK g hg); omega)
  have hbk4 : Bk C w4 h gv wv lv gs ls := ((((T.bk.below hB1).chg hC2 (fun g hg => (T.ap g hg).1)).below hV2).chg hC3 (fun g hg => (T.ap g hg).2)).below hB4
  have hL4 : LnkK (fun g => grow K W1 w2 g ∧ (Value.slice a n c).ownBlock ≠ some g) w4 q S' := ((hL2.below hV2).chg hC3 (fun g hg => nJ g hg.1)).below hB4
  have hR4 := hRf.below hB4
  refine ⟨hO4.hnd hn, hbk4, fun b hb p hp x hx e => absurd (e ▸ hbA x hx) (T.ap _ (T.bk.cb b hb p hp).1).1, hO3, fun w5 hP => ?_⟩
  obtain ⟨gv', wv', b2, hbk5, hC5, _, _⟩ := hP
  have nC : ∀ g, C g → g < W.heap.size := T.bk.lt
  have kA : ∀ g, blk a g → K g := fun g hg => by obtain ⟨p, hp, rfl⟩ := hg; exact hbA p hp
  have kD : ∀ g, grow K W1 w2 g ∧ (Value.slice a n c).ownBlock ≠ some g → ¬ (C g ∨ blk a g) := fun g hg e => by
    rcases e with e | e
    · rcases hg.1 with h1 | h1
      · exact (T.ap g e).1 h1
      · have := nC g e; omega
    · obtain ⟨p, hp, rfl⟩ := e
      exact hg.2 (by subst hp; rfl)
  have jD : ∀ g, grow J V2 w3 g → ¬ (C g ∨ blk a g) := fun g hg e => by
    rcases e with e | e
    · rcases hg with h1 | h1
      · exact (T.ap g e).2 h1
      · have := nC g e; omega
    · rcases hg with h1 | h1
      · exact T.duo.kj g (kA g e) h1
      · have := T.duo.kl g (kA g e); omega
  have s5 := hC5.size
  refine ⟨fun g => grow K W1 w2 g ∧ (Value.slice a n c).ownBlock ≠ some g, grow J V2 w3, _, gv', wv', lv, _, ls, ⟨⟨hL4.chg hC5 kD, hR4.chg hC5 jD, fun g hg => ?_, fun g hg => ?_, fun g hg hj => ?_⟩, hbk5, fun g hg => ⟨fun e => ?_, fun e => ?_⟩⟩, fun g hg => ?_, ?_, by simp, Nat.le_refl _, hev⟩
  · rcases hg.1 with h1 | h1
    · have := T.duo.kl g h1; omega
    · omega
  · rcases hg with h1 | h1
    · have := T.duo.jl g h1; omega
    · omega
  · rcases hj with hj | hj
    · exact nJ g hg.1 hj
    · rcases hg.1 with h1 | h1
      · have := T.duo.kl g h1; omega
      · omega
  · rcases hg with h1 | h1 | h1
    · exact kD g e (.inl h1)
    · exact kD g e (.inr h1)
    · rcases e.1 with h2 | h2
      · have := T.duo.kl g h2; omega
      · omega
  · rcases hg with h1 | h1 | h1
    · exact jD g e (.inl h1)
    · exact jD g e (.inr h1)
    · rcases e with h2 | h2
      · have := T.duo.jl g h2; omega
      · omega
  · rcases hg with e | e | e | e | e
    · rcases e.1 with h2 | h2
      · exact .inl (.inl h2)
      · exact .inr (by omega)
    · rcases e with h2 | h2
      · exact .inl (.inr (.inl h2))
      · exact .inr (by omega)
    · exact .inl (.inr (.inr e))
    · exact .inl (.inl (kA g e))
    · exact .inr (by omega)
  · refine (((((Chg.of_below hB1).trans (hC2.mono (fun g _ e => .inl e))).trans (Chg.of_below hV2)).trans (hC3.mono (fun g _ e => .inr (.inl e)))).trans (Chg.of_below hB4)).trans (hC5.mono (fun g _ e => ?_))
    rcases e with e | e
    · exact .inr (.inr e)
    · exact .inl (kA g e)
end Go.Proofs.Ytdmhajlhpieedaa

/-! plays: a Deliver. -/
namespace Go.Proofs.Ytdmhajlhpieedaa
open Go.RowKit Go.Lib Go.Shelf
set_option maxRecDepth 100000

set_option maxHeartbeats 8000000 in
theorem plays_deliver {K J C : Nat → Prop} {W : World} {q r h : Nat} {S : Lk} {gv wv lv : Value} {gs : List Br} {ls : List Fs} (T : Trio K J C W q r h S gv wv lv gs ls) (hev : ls.length % 2 = 0) (sp : Sp) (hk : sp.kind = 2) (hb : ∀ f ∈ S.fl, f.bs.length ≤ 140737488355326) (hg : gs.length ≤ 1099511627776) : Calls Try.prog 21 #[.pointer (some ⟨q, 0, none⟩), .pointer (some ⟨r, 0, none⟩), sp.val, .pointer (some ⟨h, 0, none⟩)] W fun e w' => e = .returned (.bool true) ∧ TriP K J C W q r h (delS S sp.k) (gs.length + 2) ls.length w' := by
  obtain ⟨W1, hW1⟩ : ∃ W1, W.alloc (.cells #[.int .i64 sp.kind, .int .i64 sp.which, .int .i64 sp.k, .int .i64 sp.at_, .int .u8 (sp.mask.toNat : Int), .slice sp.pa sp.pn sp.pc] 51) = W1 := ⟨_, rfl⟩
  have hB1 : Below W.heap.size W W1 := by rw [← hW1]; exact (Below.refl _ _).alloc (Nat.le_refl _) _
  have hx1 : W1.heap[W.heap.size]? = some (.cells #[.int .i64 sp.kind, .int .i64 sp.which, .int .i64 sp.k, .int .i64 sp.at_, .int .u8 (sp.mask.toNat : Int), .slice sp.pa sp.pn sp.pc] 51) := by rw [← hW1]; exact heap_alloc_new W _
  have h1 := T.duo.below hB1
  have hdn : (dv S sp.k).bs.length ≤ 140737488355326 := by
    unfold dv
    rcases hh : hitF S sp.k with _ | f
    · simp
    · exact hb f (List.mem_of_find?_eq_some hh)
  have H1 := (deliverK h1.l sp.k).mono (R' := fun e w' => ∃ a c, e = .returned (.tuple #[.agg #[.int .i64 (dv S sp.k).num, .int .i64 (dv S sp.k).fr, .int .i64 (dv S sp.k).tt, .slice a (dv S sp.k).bs.length c, .bool (dv S sp.k).sp], .int .i64 (dropE S sp.k)]) ∧ Dl1 K W1 q (delS S sp.k) (dv S sp.k) a (dv S sp.k).bs.length c w') (by
    rintro e w' ⟨v, rfl, hh⟩
    obtain ⟨a, c, rfl, hd⟩ := hh.dl
    exact ⟨a, c, rfl, hd⟩)
  have H2 : ∀ V2, RefK J V2 r S → _ := fun V2 hR => rdl (W := V2) hR sp.k (fun f hf => Nat.le_trans (hb f hf) (by decide))
  obtain ⟨d, hd⟩ : ∃ d, dv S sp.k = d := ⟨_, rfl⟩
  obtain ⟨n, hn⟩ : ∃ n, (dv S sp.k).bs.length = n := ⟨_, rfl⟩
  obtain ⟨ec, hec⟩ : ∃ ec, dropE S sp.k = ec := ⟨_, rfl⟩
  obtain ⟨S2, hS2⟩ : ∃ S2, delS S sp.k = S2 := ⟨_, rfl⟩
  rw [hn, hd, hec, hS2] at H1
  simp only [hd, hec, hS2] at H2
  rw [hn] at hdn
  rw [hS2]
  obtain ⟨nu, hnu⟩ : ∃ x, d.num = x := ⟨_, rfl⟩
  obtain ⟨fr, hfr⟩ : ∃ x, d.fr = x := ⟨_, rfl⟩
  obtain ⟨tt, htt⟩ : ∃ x, d.tt = x := ⟨_, rfl⟩
  obtain ⟨ss, hss⟩ : ∃ x, d.sp = x := ⟨_, rfl⟩
  rw [hnu, hfr, htt, hss] at H1
  simp only [hnu, hfr, htt, hss] at H2
  have HD : Hid (d.bs.length = n) := by rw [← hd]; exact hn
  simp only [HD.out] at H2
  have HT : Hid (Trio K J C W q r h S gv wv lv gs ls ∧ Below W.heap.size W W1 ∧ ls.length % 2 = 0 ∧ n + 2 ≤ 140737488355328 ∧ gs.length ≤ 1099511627776 ∧ W1.heap[W.heap.size]? = some (.cells #[.int .i64 sp.kind, .int .i64 sp.which, .int .i64 sp.k, .int .i64 sp.at_, .int .u8 (sp.mask.toNat : Int), .slice sp.pa sp.pn sp.pc] 51)) := ⟨T, hB1, hev, by omega, hg, hx1⟩
  have HR : Hid (∀ V2, RefK J V2 r S → Calls Try.prog 35 #[.pointer (some ⟨r, 0, none⟩), .int .i64 sp.k] V2 fun e w' => ∃ a' c', e = .returned (.tuple #[.agg #[.int .i64 nu, .int .i64 fr, .int .i64 tt, .slice a' n c', .bool ss], .int .i64 ec]) ∧ RLft J V2 r S2 w' ∧ Rw byU 1 w' a' n c' d.bs) := H2
  obtain ⟨r0, r1, r2, r3, r4, r5⟩ := box6 hx1
  unfold Sp.val
  rw [hk] at hW1 r0 ⊢
  obtain ⟨mk, hmk⟩ : ∃ mk : Int, (sp.mask.toNat : Int) = mk := ⟨_, rfl⟩
  rw [hmk] at hW1 r4 ⊢
  clear h1 hB1 hx1 hk hmk r1 r5 T hev hb hg H2 hd hn hec hS2 hnu hfr htt hss hdn
  go_enter Try.func21, Try.ntmps21
  go_wp2_with fail
  refine H1.mono ?_
  rintro e w2 ⟨a, c, rfl, hD⟩
  obtain ⟨Aa, hAa⟩ : ∃ A, w2.alloc (.cells #[.int .i64 0, .int .i64 0, .int .i64 0, .slice none 0 0, .bool false] 73) = A := ⟨_, rfl⟩
  have hBAa : Below w2.heap.size w2 Aa := by rw [← hAa]; exact (Below.refl _ _).alloc (Nat.le_refl _) _
  have hx0a : Aa.heap[w2.heap.size]? = some (.cells #[.int .i64 0, .int .i64 0, .int .i64 0, .slice none 0 0, .bool false] 73) := by rw [← hAa]; exact heap_alloc_new w2 _
  obtain ⟨Va, hVa, hx5a, hC5a⟩ := set5 (A := []) (B := []) (o := 0) (W := Aa) (g := w2.heap.size) (by simpa using hx0a) rfl (.int .i64 nu) (.int .i64 fr) (.int .i64 tt) (.slice a n c) (.bool ss)
  simp only [Nat.zero_add] at hVa
  have hxba : Va.heap[w2.heap.size]? = some (.cells #[.int .i64 nu, .int .i64 fr, .int .i64 tt, .slice a n c, .bool ss] 73) := by simpa using hx5a
  obtain ⟨⟨t0a, t1a, t2a, t3a, t4a⟩, z0a, z1a, z2a, z3a, z4a⟩ := five_cells hx0a
  have hBVa : Below w2.heap.size w2 Va := hBAa.trans (hC5a.below (fun x e => by omega) hBAa.size)
  obtain ⟨b9, hb9⟩ : ∃ b, w2.heap.size = b := ⟨_, rfl⟩
  rw [hb9] at hVa hxba t0a t1a t2a t3a t4a z0a z1a z2a z3a z4a
  have hstep : w2.heap[W.heap.size]? = some (.cells #[.int .i64 sp.kind, .int .i64 sp.which, .int .i64 sp.k, .int .i64 sp.at_, .int .u8 (sp.mask.toNat : Int), .slice sp.pa sp.pn sp.pc] 51) := hD.2.2.2.2.block HT.out.2.2.2.2.2 (fun e => by have := HT.out.1.duo.kl _ e; omega)
  have hstV : Va.heap[W.heap.size]? = some (.cells #[.int .i64 sp.kind, .int .i64 sp.which, .int .i64 sp.k, .int .i64 sp.at_, .int .u8 (sp.mask.toNat : Int), .slice sp.pa sp.pn sp.pc] 51) := (hBVa.block _ (Array.getElem?_eq_some_iff.1 hstep).1).trans hstep
  have hRV : RefK J Va r S := ((HT.out.1.duo.f.below HT.out.2.1).chg hD.2.2.2.2 (fun g hg hk => HT.out.1.duo.kj g hk hg)).below hBVa
  have HR2 := HR.out Va hRV
  have HDD : Hid (Dl1 K W1 q S2 d a n c w2 ∧ Below w2.heap.size w2 Va ∧ Va.heap[b9]? = some (.cells #[.int .i64 nu, .int .i64 fr, .int .i64 tt, .slice a n c, .bool ss] 73) ∧ W1.heap.size ≤ b9) := ⟨hD, hBVa, hxba, by rw [← hb9]; exact hD.2.2.2.2.size⟩
  have st2 := (box6 hstV).2.2.1
  clear hD hBAa hx0a hx5a hC5a hBVa hxba hstep hstV hRV H1 r0 r2 r3 r4
  go_wp2_with fail
  (try simp only [hb9])
  (try simp only [hVa])
  go_wp2_with fail
  refine HR2.mono ?_
  rintro e w3 ⟨a', c', rfl, hRL, hRw⟩
  have hb93 : w3.heap[b9]? = some (.cells #[.int .i64 nu, .int .i64 fr, .int .i64 tt, .slice a n c, .bool ss] 73) := hRL.2.block HDD.out.2.2.1 (fun e => by have := HT.out.1.duo.jl _ e; have := HT.out.2.1.size; have := HDD.out.2.2.2; omega)
  obtain ⟨Ac, hAc⟩ : ∃ A, w3.alloc (.cells #[.int .i64 0, .int .i64 0, .int .i64 0, .slice none 0 0, .bool false] 73) = A := ⟨_, rfl⟩
  have hBAc : Below w3.heap.size w3 Ac := by rw [← hAc]; exact (Below.refl _ _).alloc (Nat.le_refl _) _
  have hx0c : Ac.heap[w3.heap.size]? = some (.cells #[.int .i64 0, .int .i64 0, .int .i64 0, .slice none 0 0, .bool false] 73) := by rw [← hAc]; exact heap_alloc_new w3 _
  obtain ⟨Vc, hVc, hx5c, hC5c⟩ := set5 (A := []) (B := []) (o := 0) (W := Ac) (g := w3.heap.size) (by simpa using hx0c) rfl (.int .i64 nu) (.int .i64 fr) (.int .i64 tt) (.slice a' n c') (.bool ss)
  simp only [Nat.zero_add] at hVc
  have hxbc : Vc.heap[w3.heap.size]? = some (.cells #[.int .i64 nu, .int .i64 fr, .int .i64 tt, .slice a' n c', .bool ss] 73) := by simpa using hx5c
  obtain ⟨⟨t0c, t1c, t2c, t3c, t4c⟩, z0c, z1c, z2c, z3c, z4c⟩ := five_cells hx0c
  have hBVc : Below w3.heap.size w3 Vc := hBAc.trans (hC5c.below (fun x e => by omega) hBAc.size)
  obtain ⟨b11, hb11⟩ : ∃ b, w3.heap.size = b := ⟨_, rfl⟩
  rw [hb11] at hVc hxbc t0c t1c t2c t3c t4c z0c z1c z2c z3c z4c
  have hb9c : Vc.heap[b9]? = some (.cells #[.int .i64 nu, .int .i64 fr, .int .i64 tt, .slice a n c, .bool ss] 73) := (hBVc.block _ (Array.getElem?_eq_some_iff.1 hb93).1).trans hb93
  obtain ⟨u0, u1, u2, u3, u4⟩ := box5 hb9c
  obtain ⟨v0, v1, v2, v3, v4⟩ := box5 hxbc
  have hM := dl_mem HT.out.1 HT.out.2.2.1 HT.out.2.1 HDD.out.1 HDD.out.2.1 hRL (Below.refl _ _)
  have hOc : OwnF byU 1 5 Vc 0 (.slice a n c) d.bs := hM.2.2.2.1.below hBVc
  have HS := same_true nu fr tt ss (hOc.rw_ layU) (hRw.below hBVc)
  have HN : Hid (RLft J Va r S2 w3 ∧ Below w3.heap.size w3 Vc ∧ Vc.heap[b9]? = some (.cells #[.int .i64 nu, .int .i64 fr, .int .i64 tt, .slice a n c, .bool ss] 73)) := ⟨hRL, hBVc, hb9c⟩
  clear hRL hRw hb93 hBAc hx0c hx5c hC5c hBVc hxbc hb9c hM hOc HR HR2 st2 t0a t1a t2a t3a t4a z0a z1a z2a z3a z4a
  go_wp2_with fail
  (try simp only [hb11])
  (try simp only [hVc])
  go_wp2_with fail
  refine HS.mono ?_
  rintro e w4 ⟨rfl, hB4⟩
  have hb94 : w4.heap[b9]? = some (.cells #[.int .i64 nu, .int .i64 fr, .int .i64 tt, .slice a n c, .bool ss] 73) := (hB4.block _ (Array.getElem?_eq_some_iff.1 HN.out.2.2).1).trans HN.out.2.2
  have y3 := (box5 hb94).2.2.2.1
  obtain ⟨m1, m2, m3, _, m5⟩ := dl_mem HT.out.1 HT.out.2.2.1 HT.out.2.1 HDD.out.1 HDD.out.2.1 HN.out.1 (HN.out.2.1.trans (hB4.mono HN.out.2.1.size))
  have HK := take_any m2 m1 HT.out.2.2.2.1 HT.out.2.2.2.2.1 m3
  have HF : Hid (∀ w5, TakP C w4 h lv gs ls a n c w5 → TriP K J C W q r h S2 (gs.length + 2) ls.length w5) := m5
  clear hB4 hb94 m1 m2 m3 m5 HN HDD HT HS u0 u1 u2 u3 u4 v0 v1 v2 v3 v4 t0c t1c t2c t3c t4c z0c z1c z2c z3c z4c
  go_wp2_with fail
  refine HK.mono ?_
  rintro e w5 ⟨rfl, hP⟩
  have HG : Hid (TriP K J C W q r h S2 (gs.length + 2) ls.length w5) := HF.out w5 hP
  clear hP HF HK y3
  go_wp2_with fail
  go_ret
  exact ⟨by simp, HG.out⟩
end Go.Proofs.Ytdmhajlhpieedaa

/-! flights: its memory. -/
namespace Go.Proofs.Ytdmhajlhpieedaa
open Go.RowKit Go.Lib Go.Shelf
set_option maxRecDepth 100000

theorem layX_at (gb : Nat) {xs : List X} {i : Nat} {x : X} (hx : xs[i]? = some x) : (layX gb 0 xs)[i]? = some (pX gb (sumX (xs.take i)) x) := by
  obtain ⟨hi, e⟩ := List.getElem?_eq_some_iff.1 hx
  have hsp : xs = xs.take i ++ x :: xs.drop (i + 1) := by rw [← e, List.getElem_cons_drop, List.take_append_drop]
  have hl : (xs.take i).length = i := by rw [List.length_take]; omega
  have h1 : (layX gb 0 (xs.take i)).length = i := by rw [layX_length, hl]
  generalize hA : xs.take i = A at hsp hl h1 ⊢
  generalize xs.drop (i + 1) = B at hsp
  rw [hsp, layX_append, List.getElem?_append_right (by omega), h1, Nat.sub_self]
  simp [layX]
theorem catX_at {xs : List X} {i : Nat} {x : X} (hx : xs[i]? = some x) : ∃ A B, catX xs = A ++ (x.bs ++ B) ∧ A.length = sumX (xs.take i) := by
  obtain ⟨hi, e⟩ := List.getElem?_eq_some_iff.1 hx
  have hsp : xs = xs.take i ++ x :: xs.drop (i + 1) := by rw [← e, List.getElem_cons_drop, List.take_append_drop]
  refine ⟨catX (xs.take i), catX (xs.drop (i + 1)), ?_, catX_length _⟩
  conv => lhs; rw [hsp]
  simp [catX]
/-- The piece of one flight's bytes. -/
theorem piece_sg {wr : World} {xs : List X} {i gb : Nat} {x : X} {cur : Array Value} (hx : xs[i]? = some x) (hc : wr.heap[gb]? = some (.cells cur 5)) (hsz : cur.size = sumX xs) (hj : ∀ j, sumX (xs.take i) ≤ j → cur[j]? = (flatF byU (catX xs))[j]?) (hm : sumX xs ≤ 281474976710656) : ∃ pre post, pre.length = (if x.bs.length = 0 then 0 else sumX (xs.take i)) ∧ Sg byU 1 5 wr gb pre x.bs post x.bs.length := by
  have hle : x.bs.length ≤ maxLen := by
    have h1 := sumX_succ xs i x hx
    have h2 := sumX_take_le xs (i + 1)
    simp only [maxLen]
    omega
  by_cases h0 : x.bs.length = 0
  · have hn : x.bs = [] := List.length_eq_zero_iff.1 h0
    refine ⟨[], cur.toList, by rw [if_pos h0]; rfl, ?_, Nat.le_refl _, by omega, hle⟩
    rw [hc, hn]
    simp [flatF]
  · obtain ⟨A, B, hAB, hAl⟩ := catX_at hx
    have hfl : (flatF byU A).length = sumX (xs.take i) := by rw [flatF_length layU, hAl, Nat.mul_one]
    have htl := sumX_take_le xs i
    have hd : cur.toList.drop (sumX (xs.take i)) = flatF byU x.bs ++ flatF byU B := by
      have h1 : cur.toList.drop (sumX (xs.take i)) = (flatF byU (catX xs)).drop (sumX (xs.take i)) := by
        apply List.ext_getElem?
        intro j
        rw [List.getElem?_drop, List.getElem?_drop, Array.getElem?_toList]
        exact hj _ (by omega)
      rw [h1, hAB, flatF_append, flatF_append, ← hfl, List.drop_left]
    refine ⟨cur.toList.take (sumX (xs.take i)), flatF byU B, ?_, ?_, Nat.le_refl _, by omega, hle⟩
    · rw [if_neg h0, List.length_take, Array.length_toList]; omega
    · rw [hc, List.append_assoc, ← hd, List.take_append_drop]
/-- While all pieces are taken. -/
def TkI (C : Nat → Prop) (W2 : World) (h : Nat) (lv : Value) (ng : Nat) (ls : List Fs) (xs : List X) (gb i : Nat) (wr : World) : Prop := ∃ C' gv wv gs, Bk C' wr h gv wv lv gs ls ∧ gs.length = ng + 2 * i ∧ Chg (fun g => C g ∨ g = gb) W2 wr ∧ (∀ g, C' g → C g ∨ g = gb ∨ W2.heap.size ≤ g) ∧
  (∀ b ∈ gs, ∀ p, b.a = some p → p.block = gb → b.bs.length = 0 ∨ p.off + b.bs.length ≤ sumX (xs.take i)) ∧ ∃ cur : Array Value, wr.heap[gb]? = some (.cells cur 5) ∧ cur.size = sumX xs ∧ ∀ j, sumX (xs.take i) ≤ j → cur[j]? = (flatF byU (catX xs))[j]?
theorem TkI.step {C : Nat → Prop} {W2 wr : World} {h ng gb i : Nat} {lv : Value} {ls : List Fs} {xs : List X} {x : X} (hI : TkI C W2 h lv ng ls xs gb i wr) (hx : xs[i]? = some x) (hm : sumX xs ≤ 281474976710656) (hxb : x.bs.length ≤ 140737488355326) (hng : ng + 2 * i ≤ 1099511627776) :
    Calls Try.prog 37 #[.pointer (some ⟨h, 0, none⟩), .slice (some ⟨gb, if x.bs.length = 0 then 0 else sumX (xs.take i), none⟩) x.bs.length x.bs.length] wr fun e w' => e = .returned (.tuple #[]) ∧ TkI C W2 h lv ng ls xs gb (i + 1) w' := by
  obtain ⟨C', gv, wv, gs, hb, hgl, hC, hC', hd, cur, hc, hsz, hj⟩ := hI
  obtain ⟨pre, post, hpl, hsg⟩ := piece_sg hx hc hsz hj hm
  have hsucc := sumX_succ xs i x hx
  have htl := sumX_take_le xs (i + 1)
  have hgbl : gb < wr.heap.size := (Array.getElem?_eq_some_iff.1 hc).1
  obtain ⟨oo, hoo⟩ : ∃ oo, (if x.bs.length = 0 then 0 else sumX (xs.take i)) = oo := ⟨_, rfl⟩
  rw [hoo] at hpl ⊢
  have hooe : x.bs.length = 0 ∧ oo = 0 ∨ oo = sumX (xs.take i) := by
    by_cases h0 : x.bs.length = 0
    · rw [if_pos h0] at hoo; exact .inl ⟨h0, hoo.symm⟩
    · rw [if_neg h0] at hoo; exact .inr hoo.symm
  refine (take_any hb (a := some ⟨gb, oo, none⟩) (n := x.bs.length) (cap := x.bs.length) (.inr ⟨gb, pre, post, x.bs, by rw [hpl], rfl, hsg⟩) (by omega) (by omega) (fun b hbb p hp q hq e => ?_)).mono ?_
  · cases hq
    dsimp only at e ⊢
    rcases hd b hbb p hp e with h1 | h1
    · exact .inl h1
    · rcases hooe with ⟨h2, h3⟩ | h2
      · exact .inr (.inr (by omega))
      · exact .inr (.inl (by omega))
  · rintro e w' ⟨h1, gv', wv', b2, h2, h3, h4, h5⟩
    refine ⟨h1, _, gv', wv', _, h2, by simp; omega, hC.then h3 (fun g hg => ?_), fun g hg => ?_, fun b hbb p hp e => ?_, ?_⟩
    · rcases hg with hg | ⟨p, hp, rfl⟩
      · rcases hC' g hg with h6 | h6 | h6
        · exact .inl (.inl h6)
        · exact .inl (.inr h6)
        · exact .inr h6
      · cases hp
        exact .inl (.inr rfl)
    · rcases hg with hg | ⟨p, hp, rfl⟩ | hg
      · exact hC' g hg
      · cases hp
        exact .inr (.inl rfl)
      · exact .inr (.inr (Nat.le_trans hC.size hg.1))
    · rcases List.mem_append.1 hbb with h6 | h6
      · rcases hd b h6 p hp e with h7 | h7
        · exact .inl h7
        · exact .inr (by omega)
      · simp only [List.mem_cons, List.not_mem_nil, or_false] at h6
        rcases h6 with rfl | rfl
        · cases hp
          dsimp only
          rw [List.length_replicate]
          rcases hooe with ⟨h7, _⟩ | h7
          · exact .inl h7
          · exact .inr (by omega)
        · rcases h5 p hp with ⟨_, h7⟩ | h7
          · omega
          · omega
    · obtain ⟨c1, c2, k1, k2, k3, k4⟩ := h4 _ rfl
      dsimp only at k1 k2 k4
      rw [hc] at k1
      simp only [Option.some.injEq, Obj.cells.injEq, and_true] at k1
      subst k1
      refine ⟨c2, k2, k3.trans hsz, fun j hj' => ?_⟩
      rw [k4 j (by rcases hooe with ⟨_, h7⟩ | h7 <;> omega)]
      exact hj j (by omega)
theorem TkI.start {C : Nat → Prop} {W2 : World} {h gb : Nat} {gv wv lv : Value} {gs : List Br} {ls : List Fs} {xs : List X} (hb : Bk C W2 h gv wv lv gs ls) (hgb : W2.heap[gb]? = some (.cells (flatF byU (catX xs)).toArray 5)) (hn : ¬ C gb) : TkI C W2 h lv gs.length ls xs gb 0 W2 := by
  refine ⟨C, gv, wv, gs, hb, rfl, Chg.refl _ _, fun g hg => .inl hg, fun b hbb p hp e => absurd (e ▸ (hb.cb b hbb p hp).1) hn, _, hgb, ?_, fun j _ => by rw [List.getElem?_toArray]⟩
  rw [List.size_toArray, flatF_length layU, catX_length, Nat.mul_one]
/-- All bytes of a link. -/
def sumF (S : Lk) : Nat := (S.fl.map (fun f => f.bs.length)).sum
theorem sumF_eq {S : Lk} {xs : List X} (h : S.fl = xs.map X.fg) : sumX xs = sumF S := by
  unfold sumF sumX
  rw [h, List.map_map]
  rfl
/-- What is left when the list is taken too. -/
theorem fl_end {K J C : Nat → Prop} {W w5 w6 : World} {q r h : Nat} {S : Lk} {gv wv lv : Value} {gs : List Br} {ls : List Fs} {xs : List X} {go gb n : Nat} {cg : Array Value} (T : Trio K J C W q r h S gv wv lv gs ls) (hev : ls.length % 2 = 0) (hB5 : Below W.heap.size W w5) (hgo : w5.heap[go]? = some (.cells cg 73)) (hgb : w5.heap[gb]? = some (.cells (flatF byU (catX xs)).toArray 5)) (hgo2 : W.heap.size ≤ go) (hgb2 : W.heap.size ≤ gb) (hn : n ≤ 1048576) (hcg : cg.size = n * 5) (hl : ls.length ≤ 1099511627776) (hI : TkI C w5 h lv gs.length ls xs gb n w6) :
    Calls Try.prog 44 #[.pointer (some ⟨h, 0, none⟩), .slice (some ⟨go, 0, none⟩) n n] w6 fun e w' => e = .returned (.tuple #[]) ∧ TriP K J C W q r h S (gs.length + 2 * n) (ls.length + 2) w' := by
  obtain ⟨C', gv', wv', gs', hb, hgl, hC, hC', _, _⟩ := hI
  have hne : go ≠ gb := type_ne hgo hgb (by decide)
  have hgol : go < w5.heap.size := (Array.getElem?_eq_some_iff.1 hgo).1
  have hCgo : ¬ C go := fun e => by have := T.bk.lt go e; omega
  have hCgb : ¬ C gb := fun e => by have := T.bk.lt gb e; omega
  have hnC : ¬ C' go := fun e => by
    rcases hC' go e with h1 | h1 | h1
    · exact hCgo h1
    · exact hne h1
    · omega
  have hgo6 := hC.block hgo (fun e => e.elim hCgo hne)
  refine (takeList_any hb hnC hgo6 hcg hn hl hev).mono ?_
  rintro e w7 ⟨h1, lv', l1, l2, h2, h3⟩
  have s5 := hB5.size
  have s6 := hC.size
  have hCW : Chg C W w7 := by
    refine ((Chg.of_below hB5).then hC (fun g e => ?_)).then h3 (fun g e => ?_)
    · rcases e with e | e
      · exact .inl e
      · exact .inr (by omega)
    · rcases e with e | e
      · rcases hC' g e with h4 | h4 | h4
        · exact .inl h4
        · exact .inr (by omega)
        · exact .inr (by omega)
      · exact .inr (by omega)
  refine ⟨h1, K, J, _, gv', wv', lv', gs', _, ⟨⟨T.duo.l.chg hCW (fun g hg e => (T.ap g e).1 hg), T.duo.f.chg hCW (fun g hg e => (T.ap g e).2 hg), fun g hg => Nat.lt_of_lt_of_le (T.duo.kl g hg) hCW.size, fun g hg => Nat.lt_of_lt_of_le (T.duo.jl g hg) hCW.size, T.duo.kj⟩, h2, fun g hg => ?_⟩, fun g hg => ?_, hCW.mono (fun g _ e => .inr (.inr e)), by omega, by simp, by simp; omega⟩
  · have hnew : C g ∨ W.heap.size ≤ g := by
      rcases hg with e | e | e
      · rcases hC' g e with h4 | h4 | h4
        · exact .inl h4
        · exact .inr (by omega)
        · exact .inr (by omega)
      · exact .inr (by omega)
      · exact .inr (by omega)
    rcases hnew with e | e
    · exact T.ap g e
    · exact ⟨fun k => by have := T.duo.kl g k; omega, fun k => by have := T.duo.jl g k; omega⟩
  · rcases hg with e | e | e | e | e
    · exact .inl (.inl e)
    · exact .inl (.inr (.inl e))
    · rcases hC' g e with h4 | h4 | h4
      · exact .inl (.inr (.inr h4))
      · exact .inr (by omega)
      · exact .inr (by omega)
    · exact .inr (by omega)
    · exact .inr (by omega)
end Go.Proofs.Ytdmhajlhpieedaa
