import Derived.Test.YtdmhajlhpieedaaLcB
/-! brought. -/
namespace Go.Proofs.Ytdmhajlhpieedaa
open Go.RowKit Go.Lib Go.Shelf
set_option maxRecDepth 100000

/-- The link, the list and a flight that has come out. -/
structure Bx (K : Nat → Prop) (W0 : World) (W : World) (q : Nat) (S : Lk) (v : Value) (L : List Sn) (x : X) : Prop where
  st : St W0 K W q S
  vk : ∀ g, v.ownBlock = some g → ¬ K g
  xk : ∀ g, x.v.ownBlock = some g → ¬ K g
  own : OwnF snv 6 46 W W0.heap.size v L
  xown : OwnF byU 1 5 W 0 x.v x.bs
section
variable {K : Nat → Prop} {W0 W W' : World} {q : Nat} {S S' : Lk} {v : Value} {L : List Sn} {x : X}
theorem Bx.bg (h : Bx K W0 W q S v L x) : Bg W0 W q S v L := ⟨⟨K, h.st, h.vk⟩, h.own⟩
theorem Bx.below (h : Bx K W0 W q S v L x) (hB : Below W.heap.size W W') : Bx K W0 W' q S v L x := ⟨h.st.below hB, h.vk, h.xk, h.own.below hB, h.xown.below hB⟩
theorem Bx.set {g n cap k j : Nat} {s s' : Sn} {u : Value} (h : Bx K W0 W q S (.slice (some ⟨g, 0, none⟩) n cap) L x) (hs : L[k]? = some s) (hj : j < 6) (he : snv s' = (snv s).set j u) (hW : W.setCell ⟨g, k * 6 + j, none⟩ u = W') : Bx K W0 W' q S (.slice (some ⟨g, 0, none⟩) n cap) (L.set k s') x := by
  have h1 := h.st
  have h2 := h.vk
  have h3 := h.xk
  have hC : Chg (fun k => k = g) W W' := by rw [← hW]; exact Chg.set (D := fun k => k = g) (q := g) _ _ _ rfl
  have hg : W0.heap.size ≤ g := h.own.ge rfl
  have hk : ¬ K g := h2 g rfl
  refine ⟨⟨h1.lnk.chg hC (fun x hx e => hk (e ▸ hx)), fun x hx => ⟨(h1.new x hx).1, Nat.lt_of_lt_of_le (h1.new x hx).2 hC.size⟩, h1.bel.trans (hC.below (fun x e => by omega) h1.bel.size)⟩, h2, h3, ?_, ?_⟩
  · rw [← hW]
    exact own_setN h.own hs hj he
  · refine h.xown.chg hC (fun y hy e => ?_)
    subst e
    obtain ⟨cur, hcur⟩ := own_block h.xown hy
    rcases h.own.2 with ⟨e, _⟩ | ⟨g', cap', cur', e, _, hh, _⟩
    · cases e
    · simp only [Value.slice.injEq, Option.some.injEq, Addr.mk.injEq, and_true] at e
      obtain ⟨rfl, _⟩ := e
      rw [hcur] at hh; simp at hh
theorem Bg.deliver (h : Bg W0 W q S v L) (k : Int) (f : Fg) (hf : hitF S k = some f) : Calls Try.prog 33 #[.pointer (some ⟨q, 0, none⟩), .int .i64 k] W fun e w' => ∃ x : X, x.fg = f ∧ e = .returned (.tuple #[x.val, .int .i64 0]) ∧ ∃ K, Bx K W0 w' q (delS S k) v L x := by
  obtain ⟨K, h1, h2⟩ := h.ex
  refine (deliverK h1.lnk k).mono ?_
  rintro e w' ⟨v', e1, e2⟩
  rcases e2 with ⟨e3, _⟩ | ⟨x, e3, e4, e5, e6, e7, e8⟩
  · rw [e3] at hf; cases hf
  · rw [hf] at e3
    cases e3
    have hs := e8.size
    refine ⟨x, rfl, by rw [e1, e4, dropE, hf]; rfl, _, ⟨e7, fun g hg => ?_, h1.bel.trans (e8.below (fun g hg => (h1.new g hg).1) h1.bel.size)⟩, fun g hg e => ?_, fun g hg e => e.2 hg, h.own.chg e8 h2, e5⟩
    · rcases hg.1 with hg | hg
      · have := h1.new g hg; omega
      · have := h1.bel.size; omega
    · rcases e.1 with e | e
      · exact h2 g hg e
      · have := h.own.lt hg; omega
theorem Bg.deliverNo (h : Bg W0 W q S v L) (k : Int) (hf : hitF S k = none) : Calls Try.prog 33 #[.pointer (some ⟨q, 0, none⟩), .int .i64 k] W fun e w' => e = .returned (.tuple #[zv, .int .i64 160]) ∧ Bg W0 w' q S v L := by
  obtain ⟨K, h1, h2⟩ := h.ex
  refine (deliverK h1.lnk k).mono ?_
  rintro e w' ⟨v', e1, e2⟩
  rcases e2 with ⟨e3, e4, e5, e6⟩ | ⟨x, e3, _⟩
  · exact ⟨by rw [e1, e4, dropE, hf]; rfl, bg_lft h1 h2 h.own ⟨e5, e6⟩⟩
  · rw [e3] at hf; cases hf
theorem Bx.deliverNo (h : Bx K W0 W q S v L x) (k : Int) (hf : hitF S k = none) : Calls Try.prog 33 #[.pointer (some ⟨q, 0, none⟩), .int .i64 k] W fun e w' => e = .returned (.tuple #[zv, .int .i64 160]) ∧ (∃ K', Bx K' W0 w' q S v L x) ∧ Chg K W w' := by
  refine (deliverK h.st.lnk k).mono ?_
  rintro e w' ⟨v', e1, e2⟩
  rcases e2 with ⟨e3, e4, e5, e6⟩ | ⟨x, e3, _⟩
  · refine ⟨by rw [e1, e4, dropE, hf]; rfl, ⟨_, h.st.lft ⟨e5, e6⟩, fun g hg e => ?_, fun g hg e => ?_, h.own.chg e6 h.vk, h.xown.chg e6 h.xk⟩, e6⟩
    · rcases e with e | e
      · exact h.vk g hg e
      · have := h.own.lt hg; omega
    · rcases e with e | e
      · exact h.xk g hg e
      · have := h.xown.lt hg; omega
  · rw [e3] at hf; cases hf
end
theorem modify_set (f : Sn → Sn) (L : List Sn) (k : Nat) (s : Sn) (h : L[k]? = some s) : L.modify k f = L.set k (f s) := by
  obtain ⟨A, B, rfl, hA⟩ := mid_of h
  subst hA
  rw [modify_mid]
  simp
set_option maxHeartbeats 4000000 in
theorem brought_no {W0 W : World} {q : Nat} {v : Value} {L : List Sn} (h : Bg W0 W q (bagS L) v L) (k : Nat) (hk : ∀ s, L[k]? = some s → s.here = false) : Calls Try.prog 20 #[.pointer (some ⟨q, 0, none⟩), v, .int .i64 (k : Int)] W fun e w' => e = .returned (.bool true) ∧ Bg W0 w' q (bagS L) v L := by
  have hf : hitF (bagS L) (k : Int) = none := by
    rw [bag_hit]
    cases hq : L[k]? with
    | none => rfl
    | some s => simp [hk s hq]
  have HD : Hid (Calls Try.prog 33 #[.pointer (some ⟨q, 0, none⟩), .int .i64 (k : Int)] W fun e w' => e = .returned (.tuple #[zv, .int .i64 160]) ∧ Bg W0 w' q (bagS L) v L) := h.deliverNo _ hf
  obtain ⟨a, c, ev, _, _⟩ := h.shape
  obtain ⟨n, hn⟩ : ∃ n, L.length = n := ⟨_, rfl⟩
  have g0 : ¬ (k : Int) < 0 := by omega
  have HZ : Hid (zv = .agg #[.int .i64 0, .int .i64 0, .int .i64 0, .slice none 0 0, .bool false]) := rfl
  rw [HZ.out] at HD
  by_cases hlt : k < n
  · have g1 : ¬ (n : Int) ≤ (k : Int) := by omega
    have hs : L[k]? = some L[k] := List.getElem?_eq_getElem (by omega)
    have hh := hk _ hs
    have HA : Hid (∀ W', Bg W0 W' q (bagS L) v L → ∃ g c, v = .slice (some ⟨g, 0, none⟩) n c ∧ W'.cell? ⟨g, k * 6 + 5, none⟩ = some (.bool false)) := fun W' h' => by
      obtain ⟨g, c, e, _, hc, _⟩ := h'.at hs
      rw [hh] at hc
      exact ⟨g, c, by rw [e, hn], hc.2.2.2.2.2⟩
    obtain ⟨g, c', ev', _⟩ := HA.out W h
    rw [ev'] at HD HA ⊢
    have hlt2 : (k : Int) < (n : Int) := by omega
    clear h hk ev ev' hs hh hf hn
    go_enter Try.func20, Try.ntmps20
    go_wp2_with fail
    refine HD.out.mono ?_
    rintro e w1 ⟨rfl, h1⟩
    have hV : Below w1.heap.size w1 (w1.alloc (.cells #[.int .i64 0, .int .i64 0, .int .i64 0, .slice none 0 0, .bool false] 73)) := (Below.refl _ _).alloc (Nat.le_refl _) _
    have h2 := h1.below hV
    obtain ⟨g', c2, e', k5⟩ := HA.out _ h2
    simp only [Value.slice.injEq, Option.some.injEq, Addr.mk.injEq, and_true, true_and] at e'
    obtain ⟨rfl, _⟩ := e'
    have H2 : Hid (Bg W0 (w1.alloc (.cells #[.int .i64 0, .int .i64 0, .int .i64 0, .slice none 0 0, .bool false] 73)) q (bagS L) (.slice (some ⟨g, 0, none⟩) n c') L) := h2
    clear h1 hV h2 HA HD
    go_wp2_with fail
    go_ret
    exact ⟨rfl, H2.out⟩
  · have g1 : (n : Int) ≤ (k : Int) := by omega
    rw [hn] at ev
    subst ev
    clear h hk hf hn
    go_enter Try.func20, Try.ntmps20
    go_wp2_with fail
    refine HD.out.mono ?_
    rintro e w1 ⟨rfl, h1⟩
    have hV : Below w1.heap.size w1 (w1.alloc (.cells #[.int .i64 0, .int .i64 0, .int .i64 0, .slice none 0 0, .bool false] 73)) := (Below.refl _ _).alloc (Nat.le_refl _) _
    have H2 : Hid (Bg W0 (w1.alloc (.cells #[.int .i64 0, .int .i64 0, .int .i64 0, .slice none 0 0, .bool false] 73)) q (bagS L) (.slice a n c) L) := h1.below hV
    clear h1 hV HD
    go_wp2_with fail
    go_ret
    exact ⟨rfl, H2.out⟩
end Go.Proofs.Ytdmhajlhpieedaa
