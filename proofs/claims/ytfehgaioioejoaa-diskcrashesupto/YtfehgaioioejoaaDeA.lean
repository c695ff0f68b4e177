import Derived.Test.YtfehgaioioejoaaDdD
/-! Answers with their blocks; three disks and a list of answers in one world. -/
namespace Go.Proofs.Ytfehgaioioejoaa
open Go.RowKit Go.Lib Go.Sort Go.Shelf
set_option maxRecDepth 100000

theorem Rw.chg1 {α : Type} {f : α → List Value} {k : Nat} {D : Nat → Prop} {W W' : World} {a : Option Addr} {n cap : Nat} {l : List α} (h : Rw f k W a n cap l) (hC : Chg D W W') (hd : 0 < n → ∀ q, a = some q → ¬ D q.block) : Rw f k W' a n cap l :=
  ⟨h.len, h.room, fun hn => by
    obtain ⟨g, off, ha, hg, hc⟩ := h.cells hn
    exact ⟨g, off, ha, by have := hC.size; omega, fun j x hj i v hv => (hC.cell (p := ⟨g, off + j * k + i, none⟩) hg (hd hn ⟨g, off, none⟩ ha)).trans (hc j x hj i v hv)⟩⟩
theorem Rw.lt1 {α : Type} {f : α → List Value} {k : Nat} {W : World} {a : Option Addr} {n cap : Nat} {l : List α} (h : Rw f k W a n cap l) (hn : 0 < n) {q : Addr} (e : a = some q) : q.block < W.heap.size := by
  obtain ⟨g, off, ha, hg, _⟩ := h.cells hn
  rw [ha] at e
  cases e
  exact hg
/-- an answer as it stands -/
structure An where
  E : Int
  N : Int
  M : Int
  a1 : Option Addr
  n1 : Nat
  c1 : Nat
  a2 : Option Addr
  n2 : Nat
  c2 : Nat
  dn : Bool
def anV (A : An) : List Value := [.int .i64 A.E, .int .i64 A.N, .int .i64 A.M, .slice A.a1 A.n1 A.c1, .slice A.a2 A.n2 A.c2, .bool A.dn]
def anA (A : An) : Array Value := #[.int .i64 A.E, .int .i64 A.N, .int .i64 A.M, .slice A.a1 A.n1 A.c1, .slice A.a2 A.n2 A.c2, .bool A.dn]
theorem layAn : Lay anV 6 := ⟨fun _ => rfl, by decide, fun x u hu => by simp [anV] at hu; rcases hu with rfl | rfl | rfl | rfl | rfl | rfl <;> rfl⟩
/-- an answer whose blocks satisfy K -/
structure AnsK (W : World) (K : Nat → Prop) (S : Dk) (o : OpR) (A : An) : Prop where
  e : A.E = ansE S o
  n : A.N = ansN S o
  m : A.M = ansM S o
  d : A.dn = ansD S o
  bytes : Rw byU 1 W A.a1 A.n1 A.c1 (ansB S o)
  kb : 0 < A.n1 → ∀ q, A.a1 = some q → K q.block
  files : ∃ (l : List Fl) (vs : List Fv), l.Perm (ansF S o) ∧ RiseF l ∧ Rw fvV 3 W A.a2 A.n2 A.c2 vs ∧ vs.length = l.length ∧ (∀ (i : Nat) v f, vs[i]? = some v → l[i]? = some f → FlOk W v f) ∧ (0 < A.n2 → ∀ q, A.a2 = some q → K q.block) ∧ ∀ (i : Nat) v, vs[i]? = some v → 0 < v.n → ∀ q, v.a = some q → K q.block
theorem AnsK.chg {W W' : World} {K K' : Nat → Prop} {S : Dk} {o : OpR} {A : An} {D : Nat → Prop} (h : AnsK W K S o A) (hC : Chg D W W') (hD : ∀ g, K g → ¬ D g) (hK : ∀ g, K g → K' g) : AnsK W' K' S o A := by
  obtain ⟨l, vs, h1, h2, h3, h4, h5, h6, h7⟩ := h.files
  refine ⟨h.e, h.n, h.m, h.d, h.bytes.chg1 hC (fun hn q e => hD _ (h.kb hn q e)), fun hn q e => hK _ (h.kb hn q e), l, vs, h1, h2, h3.chg1 hC (fun hn q e => hD _ (h6 hn q e)), h4, fun i v f hv hf => ?_, fun hn q e => hK _ (h6 hn q e), fun i v hv hn q e => hK _ (h7 i v hv hn q e)⟩
  have hf5 := h5 i v f hv hf
  exact ⟨hf5.nm, hf5.syn, hf5.n, hf5.row.chg1 hC (fun hn q e => hD _ (h7 i v hv hn q e))⟩
theorem AnsOk.k {W : World} {B : Nat} {S : Dk} {o : OpR} {A : An} (h : AnsOk W B S o A.E A.N A.M A.a1 A.n1 A.c1 A.a2 A.n2 A.c2 A.dn) : AnsK W (fun g => B ≤ g ∧ g < W.heap.size) S o A := by
  obtain ⟨l, h1, h2, ⟨vs, h3, h4, h5, h6, h7⟩⟩ := h.files
  have hr := h.bytes.rw_ layU
  refine ⟨h.e, h.n, h.m, h.d, hr, fun hn q e => ⟨h.bytes.ge (g := q.block) (by rw [e]; rfl), hr.lt1 hn e⟩, l, vs, h1, h2, h3, h4, h5, fun hn q e => ⟨h6 q e, h3.lt1 hn e⟩, fun i v hv hn q e => ⟨h7 i v hv q e, ?_⟩⟩
  have hl : i < l.length := by rw [← h4]; exact (List.getElem?_eq_some_iff.1 hv).1
  exact (h5 i v l[i] hv (List.getElem?_eq_getElem hl)).row.lt1 hn e
/-- an answer without slices -/
theorem AnsOk.none_ {W : World} {B : Nat} {S : Dk} {o : OpR} {A : An} (h : AnsOk W B S o A.E A.N A.M A.a1 A.n1 A.c1 A.a2 A.n2 A.c2 A.dn) (k5 : o.kind ≠ 5) (k7 : o.kind ≠ 7) : AnsK W (fun _ => False) S o A := by
  obtain ⟨l, h1, h2, ⟨vs, h3, h4, h5, h6, h7⟩⟩ := h.files
  have hr := h.bytes.rw_ layU
  have e1 : ansB S o = [] := by unfold ansB; rw [if_neg k5]
  have e2 : ansF S o = [] := by unfold ansF; rw [if_neg k7]
  have n1 : A.n1 = 0 := by rw [← hr.len, e1]; rfl
  have l0 : l = [] := by rw [e2] at h1; exact h1.eq_nil
  subst l0
  have v0 : vs = [] := List.length_eq_zero_iff.1 h4
  subst v0
  have n2 : A.n2 = 0 := h3.len.symm
  exact ⟨h.e, h.n, h.m, h.d, hr, fun hn => by omega, [], [], h1, h2, h3, rfl, h5, fun hn => by omega, fun i v hv => by simp at hv⟩
set_option maxHeartbeats 4000000 in
theorem does_5b {w : World} {p b ck : Nat} {S : Dk} {xs : List X} (h : DiskAt w p b S xs ck) (hO : S.Ok) (nm : List UInt8) (hl : nm.length ≤ 9223372036854775807) {ba : Option Addr} {bn bc : Nat} (N M : Int) (hN : N ≤ 9223372036854775807) (hM : M ≤ 9223372036854775807) :
    Calls Try.prog 13 #[.pointer (some ⟨p, 0, none⟩), .agg #[.int .i64 5, .string ⟨nm.toArray⟩, .slice ba bn bc, .int .i64 N, .int .i64 M]] w fun e w' => ∃ a cap, e = .returned (.agg #[.int .i64 (readP S nm N M).2, .int .i64 0, .int .i64 0, .slice a (readP S nm N M).1.length cap, .slice none 0 0, .bool false]) ∧ OwnF byU 1 5 w' w.heap.size (.slice a (readP S nm N M).1.length cap) (readP S nm N M).1 ∧ Below w.heap.size w w' := by
  obtain ⟨W0, hW0⟩ : ∃ W0, w.alloc (.cells #[.int .i64 5, .string ⟨nm.toArray⟩, .slice ba bn bc, .int .i64 N, .int .i64 M] 38) = W0 := ⟨_, rfl⟩
  obtain ⟨W1, hW1⟩ : ∃ W1, W0.alloc (.cells #[.int .i64 0, .int .i64 0, .int .i64 0, .slice none 0 0, .slice none 0 0, .bool false] 40) = W1 := ⟨_, rfl⟩
  have hs0 : W0.heap.size = w.heap.size + 1 := by rw [← hW0, World.size_alloc]
  have hs1 : W1.heap.size = w.heap.size + 2 := by rw [← hW1, World.size_alloc, hs0]
  have hb1 : Below w.heap.size w W1 := by rw [← hW1, ← hW0]; exact ((Below.refl _ _).alloc (Nat.le_refl _) _).alloc (by rw [World.size_alloc]; omega) _
  have hq0 : W0.heap[w.heap.size]? = some (.cells #[.int .i64 5, .string ⟨nm.toArray⟩, .slice ba bn bc, .int .i64 N, .int .i64 M] 38) := by rw [← hW0]; exact (MapKept.heap_alloc w _).1
  have hq : W1.heap[w.heap.size]? = some (.cells #[.int .i64 5, .string ⟨nm.toArray⟩, .slice ba bn bc, .int .i64 N, .int .i64 M] 38) := by rw [← hW1]; exact ((MapKept.heap_alloc W0 _).2 _ (by omega)).trans hq0
  have hA : W1.heap[W0.heap.size]? = some (.cells #[.int .i64 0, .int .i64 0, .int .i64 0, .slice none 0 0, .slice none 0 0, .bool false] 40) := by rw [← hW1]; exact (MapKept.heap_alloc W0 _).1
  have hD1 := h.below hb1
  have HD : Hid (DiskAt w p b S xs ck ∧ Below w.heap.size w W1 ∧ w.heap.size ≤ W0.heap.size ∧ W0.heap.size < W1.heap.size ∧ DiskAt W1 p b S xs ck ∧ W1.heap[W0.heap.size]? = some (.cells #[.int .i64 0, .int .i64 0, .int .i64 0, .slice none 0 0, .slice none 0 0, .bool false] 40) ∧ W0.heap.size = w.heap.size + 1) := ⟨h, hb1, by omega, by omega, hD1, hA, hs0⟩
  obtain ⟨b0, b1, b2, b3, b4⟩ := box5 hq
  have HNU : Hid (∀ x w, Calls Try.prog 10 #[.int .i64 x] w fun e w' => e = .returned (.int .i64 x) ∧ w' = w) := num_any
  have HC : Hid (Calls Try.prog 25 #[.pointer (some ⟨p, 0, none⟩), .string ⟨nm.toArray⟩, .int .i64 N, .int .i64 M] W1 fun e w' => ∃ a cap, e = .returned (.tuple #[.slice a (readP S nm N M).1.length cap, .int .i64 (readP S nm N M).2]) ∧ OwnF byU 1 5 w' W1.heap.size (.slice a (readP S nm N M).1.length cap) (readP S nm N M).1 ∧ Below W1.heap.size W1 w') := read_all hD1 hO nm hl N M hN hM
  clear h hO hl hN hM hs0 hs1 hb1 hq0 hq hA hD1
  generalize (readP S nm N M).2 = er at *
  generalize (readP S nm N M).1 = res at *
  go_enter Try.func13, Try.ntmps13
  go_wp2_with fail
  refine HC.out.mono ?_
  rintro e w3 ⟨a3, c3, rfl, ho3, hb3⟩
  have HX : Hid (OwnF byU 1 5 w3 W1.heap.size (.slice a3 res.length c3) res ∧ Below W1.heap.size W1 w3) := ⟨ho3, hb3⟩
  have hAW : w3.heap[W0.heap.size]? = some (.cells #[.int .i64 0, .int .i64 0, .int .i64 0, .slice none 0 0, .slice none 0 0, .bool false] 40) := (hb3.block _ HD.out.2.2.2.1).trans HD.out.2.2.2.2.2.1
  clear ho3 hb3 HC
  go_wp2_with fail
  refine (HNU.out _ _).mono ?_
  rintro e wz ⟨rfl, hz⟩
  rw [hz]
  clear hz wz
  obtain ⟨W9, hW9, hh9, hC9⟩ := set6 hAW (.int .i64 er) (.int .i64 0) (.int .i64 0) (.slice a3 res.length c3) (.slice none 0 0) (.bool false)
  obtain ⟨y0, y1, y2, y3, y4, y5⟩ := box6 hAW
  have k0 := Lib.frozen_of_heap hAW 0
  have k1 := Lib.frozen_of_heap hAW 1
  have k2 := Lib.frozen_of_heap hAW 2
  have k3 := Lib.frozen_of_heap hAW 3
  have k4 := Lib.frozen_of_heap hAW 4
  have k5 := Lib.frozen_of_heap hAW 5
  obtain ⟨r0, r1, r2, r3, r4, r5⟩ := box6 hh9
  have HC9 : Hid (Chg (fun g => g = W0.heap.size) w3 W9) := hC9
  clear hAW hh9 hC9
  go_wp2_with fail
  refine bodyPost_ret (v := .agg #[.int .i64 er, .int .i64 0, .int .i64 0, .slice a3 res.length c3, .slice none 0 0, .bool false]) (by simp [results, Try.results13, go_sem, r0, r1, r2, r3, r4, r5]) rfl ?_
  refine ⟨a3, c3, rfl, (HX.out.1.chg HC9.out (fun g hg e => ?_)).mono (Nat.le_trans HD.out.2.2.1 (Nat.le_of_lt HD.out.2.2.2.1)), HD.out.2.1.trans ((HX.out.2.mono HD.out.2.1.size).trans (HC9.out.below (fun g e => by have := HD.out.2.2.1; omega) (by have := HD.out.2.1.size; have := HX.out.2.size; omega)))⟩
  have h1 := HX.out.1.ge hg
  have h2 := HD.out.2.2.2.1
  omega
theorem does_sep {w : World} {p b ck : Nat} {S : Dk} {xs : List X} {c : Nat} (h : DiskAt w p b S xs ck) (hI : Inv S c) (hc : c ≤ 4398046511104) (o : OpR) (ho : OpIn w o) :
    Calls Try.prog 13 #[.pointer (some ⟨p, 0, none⟩), .agg #[.int .i64 o.kind, .string ⟨o.nm.toArray⟩, .slice o.ba o.B.length o.bc, .int .i64 o.N, .int .i64 o.M]] w fun e w' => ∃ (A : An) (K : Nat → Prop) (xs' : List X) (ck' : Nat), e = .returned (.agg (anA A)) ∧ AnsK w' K S o A ∧ (∀ g, K g → w.heap.size ≤ g ∧ g < w'.heap.size) ∧ DiskAt w' p b (doesS S o) xs' ck' ∧ Chg (Blk p b xs) w w' ∧ (∀ g, Blk p b xs' g → Blk p b xs g ∨ w.heap.size ≤ g) ∧ (∀ g, K g → ¬ Blk p b xs' g) := by
  have hfin : ∀ (A : An) (w' : World), o.kind = 5 ∨ o.kind = 7 → AnsOk w' w.heap.size S o A.E A.N A.M A.a1 A.n1 A.c1 A.a2 A.n2 A.c2 A.dn → Below w.heap.size w w' → ∃ (K : Nat → Prop) (xs' : List X) (ck' : Nat), AnsK w' K S o A ∧ (∀ g, K g → w.heap.size ≤ g ∧ g < w'.heap.size) ∧ DiskAt w' p b (doesS S o) xs' ck' ∧ Chg (Blk p b xs) w w' ∧ (∀ g, Blk p b xs' g → Blk p b xs g ∨ w.heap.size ≤ g) ∧ (∀ g, K g → ¬ Blk p b xs' g) := by
    intro A w' hk ha hb
    have hd : doesS S o = S := by rcases hk with hk | hk <;> simp [doesS, hk]
    rw [hd]
    exact ⟨_, xs, ck, ha.k, fun g hg => hg, h.below hb, Chg.of_below hb, fun g hg => .inl hg, fun g hg hq => by have := h.lt hq; omega⟩
  by_cases k5 : o.kind = 5
  · obtain ⟨k, nm, ba, bc, Bs, N, M⟩ := o
    obtain ⟨hB, hl, hN, hM, hbl⟩ := ho
    simp only at hB hl hN hM hbl k5
    subst k5
    refine (does_5b h hI.ok nm hl N M hN hM).mono ?_
    rintro e w' ⟨a, cap, rfl, hown, hb⟩
    obtain ⟨K, xs', ck', r⟩ := hfin ⟨_, _, _, _, _, _, _, _, _, _⟩ w' (.inl rfl) ⟨rfl, rfl, rfl, rfl, hown, [], List.Perm.refl _, List.Pairwise.nil, filesO_nil _ _⟩ hb
    exact ⟨_, K, xs', ck', rfl, r⟩
  by_cases k7 : o.kind = 7
  · obtain ⟨k, nm, ba, bc, Bs, N, M⟩ := o
    obtain ⟨hB, hl, hN, hM, hbl⟩ := ho
    simp only at hB hl hN hM hbl k7
    subst k7
    have hx : ∀ x ∈ xs, x.nm.length ≤ 281474976710656 := fun x hx => by
      have := hI.nms x.fl (by rw [h.fs]; exact List.mem_map.2 ⟨x, hx, rfl⟩)
      have e : x.fl.nm = x.nm := rfl
      rw [e] at this
      omega
    have hxl : xs.length ≤ 4398046511104 := by
      have := hI.cnt
      rw [h.fs, List.length_map] at this
      omega
    refine (does_7 h hI.ok nm hl N M hN hM hxl hx).mono ?_
    rintro e w' ⟨g, cap, zs, rfl, ⟨w2, w3, hb2, hb3, hfp, w4, A, hb4, hC, hA1, hA2⟩, hn⟩
    have hb : Below w.heap.size w w' := hb2.trans ((hb3.mono hb2.size).trans ((hb4.mono (Nat.le_trans hb2.size hb3.size)).trans (hC.below (fun g e => by omega) (Nat.le_trans hb2.size (Nat.le_trans hb3.size hb4.size)))))
    obtain ⟨K, xs', ck', r⟩ := hfin ⟨0, (lenX xs : Int), 0, none, 0, 0, some ⟨g, 0, none⟩, zs.length, cap, S.down⟩ w' (.inr rfl) ⟨rfl, by show (lenX xs : Int) = _; rw [← used_lenX, ← h.fs]; rfl, rfl, rfl, ownF_nil _ _, by
      obtain ⟨l, h1, h2, h3⟩ := filesP_o hfp
      refine ⟨l, ?_, h2, ?_⟩
      · show l.Perm S.fs
        rw [h.fs]
        exact h1
      · exact ((h3.chg (D := fun _ => False) ⟨hb4.mono (Nat.zero_le _), fun g hg _ => hb4.block g hg⟩ (fun _ f => f.elim)).chg hC (fun g e => by omega)).mono hb2.size⟩ hb
    exact ⟨_, K, xs', ck', rfl, r⟩
  refine (does_full h hI hc o ho).mono ?_
  rintro e w' ⟨E, N, M, a1, n1, c1, a2, n2, c2, dn, rfl, ha, xs', ck', g1, g2, g3⟩
  exact ⟨⟨E, N, M, a1, n1, c1, a2, n2, c2, dn⟩, fun _ => False, xs', ck', rfl, AnsOk.none_ (A := ⟨E, N, M, a1, n1, c1, a2, n2, c2, dn⟩) ha k5 k7, fun g hg => hg.elim, g1, g2, g3, fun g hg => hg.elim⟩
/-! ## Colours -/
structure DC (W : World) (col : Nat → Nat) (i p : Nat) (S : Dk) : Prop where
  disk : ∃ b xs ck, DiskAt W p b S xs ck ∧ ∀ g, Blk p b xs g → col g = i
theorem DC.stay {W W' : World} {col col' : Nat → Nat} {i p : Nat} {S : Dk} {D : Nat → Prop} (h : DC W col i p S) (hC : Chg D W W') (hD : ∀ g, D g → col g ≠ i) (hc : ∀ g, g < W.heap.size → col' g = col g) : DC W' col' i p S := by
  obtain ⟨b, xs, ck, h1, h2⟩ := h.disk
  exact ⟨b, xs, ck, h1.chg hC (fun g hg hd => hD g hd (h2 g hg)), fun g hg => (hc g (h1.lt hg)).trans (h2 g hg)⟩
theorem AnsK.stay {W W' : World} {B : Nat} {col col' : Nat → Nat} {S : Dk} {o : OpR} {A : An} {D : Nat → Prop} (h : AnsK W (fun g => col g = 4) S o A) (hC : Chg D W W') (hD : ∀ g, D g → col g ≠ 4) (hc : ∀ g, g < W.heap.size → col' g = col g) (lo : ∀ g, col g ≠ 0 → B ≤ g ∧ g < W.heap.size) : AnsK W' (fun g => col' g = 4) S o A :=
  h.chg hC (fun g k hd => hD g hd k) (fun g k => (hc g (lo g (by rw [show col g = 4 from k]; decide)).2).trans k)
structure Ap (B : Nat) (W0 W : World) (p q r : Nat) (S T U : Dk) (v : Value) (As : List An) (Ps : List (Dk × OpR)) (col : Nat → Nat) : Prop where
  lo : ∀ g, col g ≠ 0 → B ≤ g ∧ g < W.heap.size
  d : DC W col 1 p S
  c : DC W col 2 q T
  x : DC W col 3 r U
  own : OwnF anV 6 40 W B v As
  vb : ∀ g, v.ownBlock = some g → col g = 5
  ans : ∀ (j : Nat) A, As[j]? = some A → ∃ P, Ps[j]? = some P ∧ AnsK W (fun g => col g = 4) P.1 P.2 A
  below : Below B W0 W
  base : B ≤ W0.heap.size
theorem Ap.grow {B : Nat} {W0 W W' : World} {p q r : Nat} {S T U : Dk} {v : Value} {As : List An} {Ps : List (Dk × OpR)} {col : Nat → Nat} (h : Ap B W0 W p q r S T U v As Ps col) (hb : Below W.heap.size W W') : Ap B W0 W' p q r S T U v As Ps col := by
  have hC : Chg (fun _ => False) W W' := Chg.of_below hb
  have hsz := hb.size
  refine ⟨fun g hg => ⟨(h.lo g hg).1, Nat.lt_of_lt_of_le (h.lo g hg).2 hsz⟩, h.d.stay hC (fun _ f => f.elim) (fun _ _ => rfl), h.c.stay hC (fun _ f => f.elim) (fun _ _ => rfl), h.x.stay hC (fun _ f => f.elim) (fun _ _ => rfl), h.own.below hb, h.vb, fun j A hj => ?_, h.below.trans (hb.mono (Nat.le_trans h.base h.below.size)), h.base⟩
  obtain ⟨P, hP, ha⟩ := h.ans j A hj
  exact ⟨P, hP, ha.stay hC (fun _ f => f.elim) (fun _ _ => rfl) h.lo⟩
theorem AnsK.grow {W W' : World} {K : Nat → Prop} {S : Dk} {o : OpR} {A : An} (h : AnsK W K S o A) (hb : Below W.heap.size W W') : AnsK W' K S o A := h.chg (D := fun _ => False) (Chg.of_below hb) (fun _ _ f => f) (fun _ hg => hg)
theorem Ap.d2 {B : Nat} {W0 W : World} {p q r : Nat} {S T U : Dk} {v : Value} {As : List An} {Ps : List (Dk × OpR)} {col : Nat → Nat} (h : Ap B W0 W p q r S T U v As Ps col) : D2 B W0 W p q S T := by
  obtain ⟨b, xs, ck, h1, h2⟩ := h.d.disk
  obtain ⟨c, ys, dk, h3, h4⟩ := h.c.disk
  exact ⟨b, xs, ck, c, ys, dk, h1, h3, fun g hg hq => (by have := h2 g hg; rw [h4 g hq] at this; cases this), fun g hg => (h.lo g (by rw [h2 g hg]; decide)).1, fun g hg => (h.lo g (by rw [h4 g hg]; decide)).1, h.below⟩
theorem ap_d {B : Nat} {W0 W : World} {p q r : Nat} {S T U : Dk} {v : Value} {As : List An} {Ps : List (Dk × OpR)} {col : Nat → Nat} (h : Ap B W0 W p q r S T U v As Ps col) {c : Nat} (hI : Inv S c) (hc : c ≤ 4398046511104) (o : OpR) (ho : OpIn W o) :
    Calls Try.prog 13 #[.pointer (some ⟨p, 0, none⟩), .agg #[.int .i64 o.kind, .string ⟨o.nm.toArray⟩, .slice o.ba o.B.length o.bc, .int .i64 o.N, .int .i64 o.M]] W fun e w' => ∃ A col', e = .returned (.agg (anA A)) ∧ Ap B W0 w' p q r (doesS S o) T U v As Ps col' ∧ AnsK w' (fun g => col' g = 4) S o A ∧ Inv (doesS S o) (c + 1) := by
  obtain ⟨b, xs, ck, h1, h2⟩ := h.d.disk
  have hi := inv_does h1 hI o ho.N ho.M
  refine (does_sep h1 hI hc o ho).mono ?_
  rintro e w' ⟨A, K, xs', ck', rfl, hA, hK, hD, hC, hb, hs⟩
  classical
  have hsz := hC.size
  have hB : B ≤ W.heap.size := Nat.le_trans h.base h.below.size
  have hcc : ∀ g, g < W.heap.size → (fun g => if g < W.heap.size then col g else if K g then 4 else if g < w'.heap.size then 1 else 0) g = col g := fun g hg => by simp [hg]
  refine ⟨A, fun g => if g < W.heap.size then col g else if K g then 4 else if g < w'.heap.size then 1 else 0, rfl, ⟨fun g hg => ?_, ⟨b, xs', ck', hD, fun g hg => ?_⟩, h.c.stay hC (fun g hg => by rw [h2 g hg]; decide) hcc, h.x.stay hC (fun g hg => by rw [h2 g hg]; decide) hcc, h.own.chg hC (fun g hg hd => by have e1 := h.vb g hg; rw [h2 g hd] at e1; cases e1), fun g hg => (hcc g (h.lo g (by rw [h.vb g hg]; decide)).2).trans (h.vb g hg), fun j A' hj => ?_, h.below.trans (hC.below (fun g hg => (h.lo g (by rw [h2 g hg]; decide)).1) hB), h.base⟩, hA.chg (D := fun _ => False) (Chg.refl _ _) (fun _ _ f => f) (fun g hg => ?_), hi⟩
  · by_cases h3 : g < W.heap.size
    · simp only [h3, if_true] at hg
      have := h.lo g hg
      exact ⟨this.1, by omega⟩
    · by_cases h4 : K g
      · have := hK g h4
        exact ⟨by omega, this.2⟩
      · by_cases h5 : g < w'.heap.size
        · exact ⟨by omega, h5⟩
        · simp [h3, h4, h5] at hg
  · rcases hb g hg with h3 | h3
    · have h4 := h1.lt h3
      simp only [h4, if_true]
      exact h2 g h3
    · have h4 : ¬ g < W.heap.size := by omega
      have h5 : ¬ K g := fun hk => hs g hk hg
      have h6 := hD.lt hg
      simp [h4, h5, h6]
  · obtain ⟨P, hP, ha⟩ := h.ans j A' hj
    exact ⟨P, hP, ha.stay hC (fun g hd => by rw [h2 g hd]; decide) hcc h.lo⟩
  · have h4 : ¬ g < W.heap.size := by have := (hK g hg).1; omega
    simp [h4, hg]
theorem ap_c {B : Nat} {W0 W : World} {p q r : Nat} {S T U : Dk} {v : Value} {As : List An} {Ps : List (Dk × OpR)} {col : Nat → Nat} (h : Ap B W0 W p q r S T U v As Ps col) {c : Nat} (hI : Inv T c) (hc : c ≤ 4398046511104) (o : OpR) (ho : OpIn W o) :
    Calls Try.prog 13 #[.pointer (some ⟨q, 0, none⟩), .agg #[.int .i64 o.kind, .string ⟨o.nm.toArray⟩, .slice o.ba o.B.length o.bc, .int .i64 o.N, .int .i64 o.M]] W fun e w' => ∃ A col', e = .returned (.agg (anA A)) ∧ Ap B W0 w' p q r S (doesS T o) U v As Ps col' ∧ AnsK w' (fun g => col' g = 4) T o A ∧ Inv (doesS T o) (c + 1) := by
  obtain ⟨b, xs, ck, h1, h2⟩ := h.c.disk
  have hi := inv_does h1 hI o ho.N ho.M
  refine (does_sep h1 hI hc o ho).mono ?_
  rintro e w' ⟨A, K, xs', ck', rfl, hA, hK, hD, hC, hb, hs⟩
  classical
  have hsz := hC.size
  have hB : B ≤ W.heap.size := Nat.le_trans h.base h.below.size
  have hcc : ∀ g, g < W.heap.size → (fun g => if g < W.heap.size then col g else if K g then 4 else if g < w'.heap.size then 2 else 0) g = col g := fun g hg => by simp [hg]
  refine ⟨A, fun g => if g < W.heap.size then col g else if K g then 4 else if g < w'.heap.size then 2 else 0, rfl, ⟨fun g hg => ?_, h.d.stay hC (fun g hg => by rw [h2 g hg]; decide) hcc, ⟨b, xs', ck', hD, fun g hg => ?_⟩, h.x.stay hC (fun g hg => by rw [h2 g hg]; decide) hcc, h.own.chg hC (fun g hg hd => by have e1 := h.vb g hg; rw [h2 g hd] at e1; cases e1), fun g hg => (hcc g (h.lo g (by rw [h.vb g hg]; decide)).2).trans (h.vb g hg), fun j A' hj => ?_, h.below.trans (hC.below (fun g hg => (h.lo g (by rw [h2 g hg]; decide)).1) hB), h.base⟩, hA.chg (D := fun _ => False) (Chg.refl _ _) (fun _ _ f => f) (fun g hg => ?_), hi⟩
  · by_cases h3 : g < W.heap.size
    · simp only [h3, if_true] at hg
      have := h.lo g hg
      exact ⟨this.1, by omega⟩
    · by_cases h4 : K g
      · have := hK g h4
        exact ⟨by omega, this.2⟩
      · by_cases h5 : g < w'.heap.size
        · exact ⟨by omega, h5⟩
        · simp [h3, h4, h5] at hg
  · rcases hb g hg with h3 | h3
    · have h4 := h1.lt h3
      simp only [h4, if_true]
      exact h2 g h3
    · have h4 : ¬ g < W.heap.size := by omega
      have h5 : ¬ K g := fun hk => hs g hk hg
      have h6 := hD.lt hg
      simp [h4, h5, h6]
  · obtain ⟨P, hP, ha⟩ := h.ans j A' hj
    exact ⟨P, hP, ha.stay hC (fun g hd => by rw [h2 g hd]; decide) hcc h.lo⟩
  · have h4 : ¬ g < W.heap.size := by have := (hK g hg).1; omega
    simp [h4, hg]
theorem ap_x {B : Nat} {W0 W : World} {p q r : Nat} {S T U : Dk} {v : Value} {As : List An} {Ps : List (Dk × OpR)} {col : Nat → Nat} (h : Ap B W0 W p q r S T U v As Ps col) {c : Nat} (hI : Inv U c) (hc : c ≤ 4398046511104) (o : OpR) (ho : OpIn W o) :
    Calls Try.prog 13 #[.pointer (some ⟨r, 0, none⟩), .agg #[.int .i64 o.kind, .string ⟨o.nm.toArray⟩, .slice o.ba o.B.length o.bc, .int .i64 o.N, .int .i64 o.M]] W fun e w' => ∃ A col', e = .returned (.agg (anA A)) ∧ Ap B W0 w' p q r S T (doesS U o) v As Ps col' ∧ AnsK w' (fun g => col' g = 4) U o A ∧ Inv (doesS U o) (c + 1) := by
  obtain ⟨b, xs, ck, h1, h2⟩ := h.x.disk
  have hi := inv_does h1 hI o ho.N ho.M
  refine (does_sep h1 hI hc o ho).mono ?_
  rintro e w' ⟨A, K, xs', ck', rfl, hA, hK, hD, hC, hb, hs⟩
  classical
  have hsz := hC.size
  have hB : B ≤ W.heap.size := Nat.le_trans h.base h.below.size
  have hcc : ∀ g, g < W.heap.size → (fun g => if g < W.heap.size then col g else if K g then 4 else if g < w'.heap.size then 3 else 0) g = col g := fun g hg => by simp [hg]
  refine ⟨A, fun g => if g < W.heap.size then col g else if K g then 4 else if g < w'.heap.size then 3 else 0, rfl, ⟨fun g hg => ?_, h.d.stay hC (fun g hg => by rw [h2 g hg]; decide) hcc, h.c.stay hC (fun g hg => by rw [h2 g hg]; decide) hcc, ⟨b, xs', ck', hD, fun g hg => ?_⟩, h.own.chg hC (fun g hg hd => by have e1 := h.vb g hg; rw [h2 g hd] at e1; cases e1), fun g hg => (hcc g (h.lo g (by rw [h.vb g hg]; decide)).2).trans (h.vb g hg), fun j A' hj => ?_, h.below.trans (hC.below (fun g hg => (h.lo g (by rw [h2 g hg]; decide)).1) hB), h.base⟩, hA.chg (D := fun _ => False) (Chg.refl _ _) (fun _ _ f => f) (fun g hg => ?_), hi⟩
  · by_cases h3 : g < W.heap.size
    · simp only [h3, if_true] at hg
      have := h.lo g hg
      exact ⟨this.1, by omega⟩
    · by_cases h4 : K g
      · have := hK g h4
        exact ⟨by omega, this.2⟩
      · by_cases h5 : g < w'.heap.size
        · exact ⟨by omega, h5⟩
        · simp [h3, h4, h5] at hg
  · rcases hb g hg with h3 | h3
    · have h4 := h1.lt h3
      simp only [h4, if_true]
      exact h2 g h3
    · have h4 : ¬ g < W.heap.size := by omega
      have h5 : ¬ K g := fun hk => hs g hk hg
      have h6 := hD.lt hg
      simp [h4, h5, h6]
  · obtain ⟨P, hP, ha⟩ := h.ans j A' hj
    exact ⟨P, hP, ha.stay hC (fun g hd => by rw [h2 g hd]; decide) hcc h.lo⟩
  · have h4 : ¬ g < W.heap.size := by have := (hK g hg).1; omega
    simp [h4, hg]
theorem ap_app {B : Nat} {W0 W w' : World} {p q r : Nat} {S T U : Dk} {v : Value} {As : List An} {Ps : List (Dk × OpR)} {col : Nat → Nat} (h : Ap B W0 W p q r S T U v As Ps col) (hl : As.length = Ps.length) {A : An} {P : Dk × OpR} (hA : AnsK W (fun g => col g = 4) P.1 P.2 A) {g n cap : Nat} (ho : OwnF anV 6 40 w' B (.slice (some ⟨g, 0, none⟩) n cap) (As ++ [A])) (hb : Below B W w') (hk : Keeps W w' v) (hat : v.ownBlock = some g ∨ W.heap.size < g) :
    ∃ col', Ap B W0 w' p q r S T U (.slice (some ⟨g, 0, none⟩) n cap) (As ++ [A]) (Ps ++ [P]) col' := by
  have hC : Chg (fun g => v.ownBlock = some g) W w' := ⟨hb.mono (Nat.zero_le _), fun g hg hd => hk g hg hd⟩
  have hsz := hC.size
  have hB : B ≤ W.heap.size := Nat.le_trans h.base h.below.size
  have hcc : ∀ g, g < W.heap.size → (fun g => if g < W.heap.size then col g else if g < w'.heap.size then 5 else 0) g = col g := fun g hg => by simp [hg]
  refine ⟨fun g => if g < W.heap.size then col g else if g < w'.heap.size then 5 else 0, fun g hg => ?_, h.d.stay hC (fun g hg => by rw [h.vb g hg]; decide) hcc, h.c.stay hC (fun g hg => by rw [h.vb g hg]; decide) hcc, h.x.stay hC (fun g hg => by rw [h.vb g hg]; decide) hcc, ho, fun g' hg' => ?_, fun j A' hj => ?_, h.below.trans hb, h.base⟩
  · by_cases h3 : g < W.heap.size
    · simp only [h3, if_true] at hg
      have := h.lo g hg
      exact ⟨this.1, by omega⟩
    · by_cases h5 : g < w'.heap.size
      · exact ⟨by omega, h5⟩
      · simp [h3, h5] at hg
  · have h6 := ho.lt hg'
    obtain rfl : g = g' := by simpa [Value.ownBlock] using hg'
    rcases hat with h3 | h3
    · have h4 := h.vb g h3
      exact (hcc g (h.lo g (by rw [h4]; decide)).2).trans h4
    · have h4 : ¬ g < W.heap.size := by omega
      simp [h4, h6]
  · have hlA : As.length = Ps.length := hl
    by_cases hj2 : j < As.length
    · rw [List.getElem?_append_left hj2] at hj
      obtain ⟨P', hP, ha⟩ := h.ans j A' hj
      exact ⟨P', by rw [List.getElem?_append_left (by omega)]; exact hP, ha.stay hC (fun g hg => by rw [h.vb g hg]; decide) hcc h.lo⟩
    · have hj3 := (List.getElem?_eq_some_iff.1 hj).1
      rw [List.length_append, List.length_singleton] at hj3
      obtain rfl : j = As.length := by omega
      rw [List.getElem?_append_right (Nat.le_refl _), Nat.sub_self] at hj
      simp only [List.getElem?_cons_zero, Option.some.injEq] at hj
      subst hj
      exact ⟨P, by rw [hlA, List.getElem?_append_right (Nat.le_refl _), Nat.sub_self]; rfl, hA.stay hC (fun g hg => by rw [h.vb g hg]; decide) hcc h.lo⟩
theorem ap_new {B : Nat} {W0 W : World} {p q : Nat} {S T : Dk} (hB : B ≤ W0.heap.size) (h : D2 B W0 W p q S T) (n : Nat) (hn : n ≤ 1099511627776) : Calls Try.prog 9 #[.int .i64 (n : Int)] W fun e w' => ∃ r col, e = .returned (.tuple #[.pointer (some ⟨r, 0, none⟩), .int .i64 0]) ∧ Ap B W0 w' p q r S T ⟨n, [], false, 0, 0⟩ (.slice none 0 0) [] [] col := by
  obtain ⟨b, xs, ck, c, ys, dk, h1, h2, h3, h4, h5, h6⟩ := h.two
  refine (diskNew_any n hn W).mono ?_
  rintro e w' ⟨rfl, hD, hb2⟩
  classical
  have hsz := h6.size
  have hblk : ∀ g, Blk (W.heap.size + 1) W.heap.size [] g → W.heap.size ≤ g := fun g hg => by
    rcases hg with h | h | ⟨x, hx, _⟩
    · omega
    · omega
    · simp at hx
  have hs2 := hb2.size
  refine ⟨_, fun g => if Blk p b xs g then 1 else if Blk q c ys g then 2 else if Blk (W.heap.size + 1) W.heap.size [] g then 3 else 0, rfl, fun g hg => ?_, ⟨b, xs, ck, h1.below hb2, fun g hg => by simp [hg]⟩, ⟨c, ys, dk, h2.below hb2, fun g hg => by simp [hg, show ¬ Blk p b xs g from fun hq => h3 g hq hg]⟩, ⟨_, _, _, hD, fun g hg => ?_⟩, ownF_nil _ _, fun g hg => (by cases hg), fun j A hj => (by simp at hj), h6.trans (hb2.mono (by omega)), hB⟩
  · by_cases k1 : Blk p b xs g
    · exact ⟨h4 g k1, by have := h1.lt k1; omega⟩
    · by_cases k2 : Blk q c ys g
      · exact ⟨h5 g k2, by have := h2.lt k2; omega⟩
      · by_cases k3 : Blk (W.heap.size + 1) W.heap.size [] g
        · exact ⟨by have := hblk g k3; omega, hD.lt k3⟩
        · simp [k1, k2, k3] at hg
  · have k1 : ¬ Blk p b xs g := fun hq => by have := h1.lt hq; have := hblk g hg; omega
    have k2 : ¬ Blk q c ys g := fun hq => by have := h2.lt hq; have := hblk g hg; omega
    simp [k1, k2, hg]
end Go.Proofs.Ytfehgaioioejoaa
