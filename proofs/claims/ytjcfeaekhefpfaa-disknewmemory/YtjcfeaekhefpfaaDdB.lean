import Derived.Test.YtjcfeaekhefpfaaDdA
/-! The answers of does, whole; two disks in one world. -/
namespace Go.Proofs.Ytjcfeaekhefpfaa
open Go.RowKit Go.Lib Go.Sort Go.Shelf
set_option maxRecDepth 100000

def ansE (S : Dk) (o : OpR) : Int :=
  if o.kind = 1 then (appC S o.nm o.B).2.2 else if o.kind = 2 then (syncP S o.nm).2 else if o.kind = 3 then (cutP S o.nm o.N).2 else if o.kind = 4 then (removeP S o.nm).2
  else if o.kind = 8 then (armP S o.N o.M).2 else if o.kind = 9 then (crashC S o.N).2 else if o.kind = 10 then (upP S).2 else if o.kind = 11 then (turnP S o.nm o.N (maskOf o.M)).2
  else if o.kind = 5 then (readP S o.nm o.N o.M).2 else if o.kind = 6 then (sizeP S o.nm).2.2 else 0
def ansN (S : Dk) (o : OpR) : Int := if o.kind = 1 then (appC S o.nm o.B).2.1 else if o.kind = 6 then ((sizeP S o.nm).1 : Int) else if o.kind = 7 then (used S.fs : Int) else 0
def ansM (S : Dk) (o : OpR) : Int := if o.kind = 6 then ((sizeP S o.nm).2.1 : Int) else 0
def ansD (S : Dk) (o : OpR) : Bool := if o.kind = 7 then S.down else false
def ansB (S : Dk) (o : OpR) : List UInt8 := if o.kind = 5 then (readP S o.nm o.N o.M).1 else []
def ansF (S : Dk) (o : OpR) : List Fl := if o.kind = 7 then S.fs else []
def RiseF (l : List Fl) : Prop := l.Pairwise (fun x y => ¬ Lib.compareBytes y.nm x.nm < 0)
theorem rise_unique : ∀ {a b : List Fl}, a.Perm b → (a.map (·.nm)).Nodup → RiseF a → RiseF b → a = b
  | [], b, h, _, _, _ => (List.Perm.nil_eq h)
  | x :: a, [], h, _, _, _ => absurd h.length_eq (by simp)
  | x :: a, y :: b, h, hn, ha, hb => by
    have hxy : x = y := by
      by_cases e : x = y
      · exact e
      · exfalso
        have h1 : x ∈ b := by
          rcases List.mem_cons.1 (h.mem_iff.1 (List.mem_cons_self ..)) with h1 | h1
          · exact absurd h1 e
          · exact h1
        have h2 : y ∈ a := by
          rcases List.mem_cons.1 (h.mem_iff.2 (List.mem_cons_self ..)) with h1 | h1
          · exact absurd h1.symm e
          · exact h1
        have c1 := (List.pairwise_cons.1 hb).1 x h1
        have c2 := (List.pairwise_cons.1 ha).1 y h2
        have hnm := cmp_eq_of x.nm y.nm c1 c2
        rw [List.map_cons, List.nodup_cons] at hn
        exact hn.1 (by rw [hnm]; exact List.mem_map.2 ⟨y, h2, rfl⟩)
    subst hxy
    rw [List.map_cons, List.nodup_cons] at hn
    rw [rise_unique h.cons_inv hn.2 (List.pairwise_cons.1 ha).2 (List.pairwise_cons.1 hb).2]
/-- Answered files, all of them at or beyond B. -/
structure FilesO (W : World) (B : Nat) (a : Option Addr) (n c : Nat) (fs : List Fl) : Prop where
  row : ∃ vs : List Fv, Rw fvV 3 W a n c vs ∧ vs.length = fs.length ∧ (∀ (i : Nat) v f, vs[i]? = some v → fs[i]? = some f → FlOk W v f) ∧ (∀ q, a = some q → B ≤ q.block) ∧ ∀ (i : Nat) v, vs[i]? = some v → ∀ q, v.a = some q → B ≤ q.block
theorem FilesO.r {W : World} {B : Nat} {a : Option Addr} {n c : Nat} {fs : List Fl} (h : FilesO W B a n c fs) : FilesR W a n c fs := by
  obtain ⟨vs, h1, h2, h3, _⟩ := h.row
  exact ⟨vs, h1, h2, h3⟩
theorem filesO_nil (W : World) (B : Nat) : FilesO W B none 0 0 [] := ⟨[], rw_nil W, rfl, fun i v f h => by simp at h, fun q h => (by cases h), fun i v h => by simp at h⟩
theorem FilesO.chg {W W' : World} {B : Nat} {a : Option Addr} {n c : Nat} {fs : List Fl} {D : Nat → Prop} (h : FilesO W B a n c fs) (hC : Chg D W W') (hD : ∀ g, D g → g < B) : FilesO W' B a n c fs := by
  obtain ⟨vs, h1, h2, h3, h4, h5⟩ := h.row
  exact ⟨vs, h1.chg hC (fun q e hd => by have := h4 q e; have := hD _ hd; omega), h2, fun i v f hv hf => (h3 i v f hv hf).chg hC (fun q e hd => by have := h5 i v hv q e; have := hD _ hd; omega), h4, h5⟩
theorem FilesO.mono {W : World} {B C : Nat} {a : Option Addr} {n c : Nat} {fs : List Fl} (h : FilesO W B a n c fs) (hC : C ≤ B) : FilesO W C a n c fs := by
  obtain ⟨vs, h1, h2, h3, h4, h5⟩ := h.row
  exact ⟨vs, h1, h2, h3, fun q e => Nat.le_trans hC (h4 q e), fun i v hv q e => Nat.le_trans hC (h5 i v hv q e)⟩
/-- What Files answers, in order. -/
theorem filesP_o {w w' : World} {xs : List X} {a : Option Addr} {n c : Nat} (h : FilesP w xs (.returned (.slice a n c)) w') : ∃ l : List Fl, l.Perm (xs.map X.fl) ∧ RiseF l ∧ FilesO w' w.heap.size a n c l := by
  obtain ⟨g, cap, zs, he, hp, hr, hrw, hfo, _, hb, hg, _⟩ := h
  simp only [Ending.returned.injEq, Value.slice.injEq] at he
  obtain ⟨rfl, rfl, rfl⟩ := he
  have hs : ∀ z ∈ zs, z.1.nm = z.2.fl.nm := fun z hz => (hfo z hz).nm
  refine ⟨(zs.map (·.2)).map X.fl, hp.map _, ?_, zs.map (·.1), hrw, by simp, ?_, fun q e => by cases e; exact hg, ?_⟩
  · unfold RiseF
    unfold Rises at hr
    rw [List.pairwise_map] at hr
    rw [List.pairwise_map, List.pairwise_map]
    refine List.Pairwise.imp_of_mem ?_ hr
    intro x y hx hy h1
    rw [← hs x hx, ← hs y hy]
    exact h1
  · intro i v f hv hf
    rw [List.getElem?_map] at hv
    rw [List.getElem?_map, List.getElem?_map] at hf
    obtain ⟨z, hz, rfl⟩ := Option.map_eq_some_iff.1 hv
    rw [hz] at hf
    simp only [Option.map_some, Option.some.injEq] at hf
    subst hf
    have hz2 := hfo z (List.mem_of_getElem? hz)
    have hrz := hz2.own.rw_ layU
    exact ⟨hz2.nm, hz2.syn, hrz.len.symm, hrz⟩
  · intro i v hv q e
    rw [List.getElem?_map] at hv
    obtain ⟨z, hz, rfl⟩ := Option.map_eq_some_iff.1 hv
    have hz2 := hfo z (List.mem_of_getElem? hz)
    exact hz2.own.ge (g := q.block) (by rw [e]; rfl)
structure AnsOk (W : World) (B : Nat) (S : Dk) (o : OpR) (E N M : Int) (a1 : Option Addr) (n1 c1 : Nat) (a2 : Option Addr) (n2 c2 : Nat) (dn : Bool) : Prop where
  e : E = ansE S o
  n : N = ansN S o
  m : M = ansM S o
  d : dn = ansD S o
  bytes : OwnF byU 1 5 W B (.slice a1 n1 c1) (ansB S o)
  files : ∃ l : List Fl, l.Perm (ansF S o) ∧ RiseF l ∧ FilesO W B a2 n2 c2 l
theorem AnsOk.chg {W W' : World} {B : Nat} {S : Dk} {o : OpR} {E N M : Int} {a1 : Option Addr} {n1 c1 : Nat} {a2 : Option Addr} {n2 c2 : Nat} {dn : Bool} {D : Nat → Prop} (h : AnsOk W B S o E N M a1 n1 c1 a2 n2 c2 dn) (hC : Chg D W W') (hD : ∀ g, D g → g < B) : AnsOk W' B S o E N M a1 n1 c1 a2 n2 c2 dn := by
  obtain ⟨l, h1, h2, h3⟩ := h.files
  exact ⟨h.e, h.n, h.m, h.d, h.bytes.chg hC (fun g hg hd => by have := h.bytes.ge hg; have := hD g hd; omega), l, h1, h2, h3.chg hC hD⟩
def DoesP (w : World) (p b : Nat) (xs : List X) (S : Dk) (o : OpR) (e : Ending) (w' : World) : Prop := ∃ E N M a1 n1 c1 a2 n2 c2 dn, e = .returned (.agg #[.int .i64 E, .int .i64 N, .int .i64 M, .slice a1 n1 c1, .slice a2 n2 c2, .bool dn]) ∧ AnsOk w' w.heap.size S o E N M a1 n1 c1 a2 n2 c2 dn ∧ Nxt w w' p b xs (doesS S o)
theorem ans_plain {W : World} {B : Nat} {S : Dk} {o : OpR} {E N M : Int} (he : E = ansE S o) (hn : N = ansN S o) (hm : M = ansM S o) (k5 : o.kind ≠ 5) (k7 : o.kind ≠ 7) : AnsOk W B S o E N M none 0 0 none 0 0 false := by
  refine ⟨he, hn, hm, ?_, ?_, [], ?_, List.Pairwise.nil, filesO_nil W B⟩
  · unfold ansD; rw [if_neg k7]
  · unfold ansB; rw [if_neg k5]; exact ownF_nil _ _
  · unfold ansF; rw [if_neg k7]
theorem does_full {w : World} {p b ck : Nat} {S : Dk} {xs : List X} {c : Nat} (h : DiskAt w p b S xs ck) (hI : Inv S c) (hc : c ≤ 4398046511104) (o : OpR) (ho : OpIn w o) :
    Calls Try.prog 14 #[.pointer (some ⟨p, 0, none⟩), .agg #[.int .i64 o.kind, .string ⟨o.nm.toArray⟩, .slice o.ba o.B.length o.bc, .int .i64 o.N, .int .i64 o.M]] w fun e w' => DoesP w p b xs S o e w' := by
  obtain ⟨k, nm, ba, bc, B, N, M⟩ := o
  obtain ⟨hB, hl, hN, hM, hbl⟩ := ho
  simp only at hB hl hN hM hbl
  have hx : ∀ x ∈ xs, x.nm.length ≤ 281474976710656 := fun x hx => by
    have := hI.nms x.fl (by rw [h.fs]; exact List.mem_map.2 ⟨x, hx, rfl⟩)
    have e : x.fl.nm = x.nm := rfl
    rw [e] at this
    omega
  have hxl : xs.length ≤ 4398046511104 := by
    have := hI.cnt
    rw [h.fs, List.length_map] at this
    omega
  by_cases k1 : k = 1
  · subst k1
    refine (does_1 h hI.ok nm hl N M hN hM hB hbl).mono ?_
    rintro e w' ⟨rfl, hn⟩
    exact ⟨_, _, _, _, _, _, _, _, _, _, rfl, ans_plain rfl rfl rfl (by simp) (by simp), hn⟩
  by_cases k2 : k = 2
  · subst k2
    refine (does_2 h hI.ok nm hl N M hN hM).mono ?_
    rintro e w' ⟨rfl, hn⟩
    exact ⟨_, _, _, _, _, _, _, _, _, _, rfl, ans_plain rfl rfl rfl (by simp) (by simp), hn⟩
  by_cases k3 : k = 3
  · subst k3
    refine (does_3 h hI.ok nm hl N M hN hM).mono ?_
    rintro e w' ⟨rfl, hn⟩
    exact ⟨_, _, _, _, _, _, _, _, _, _, rfl, ans_plain rfl rfl rfl (by simp) (by simp), hn⟩
  by_cases k4 : k = 4
  · subst k4
    refine (does_4 h hI.ok nm hl N M hN hM).mono ?_
    rintro e w' ⟨rfl, hn⟩
    exact ⟨_, _, _, _, _, _, _, _, _, _, rfl, ans_plain rfl rfl rfl (by simp) (by simp), hn⟩
  by_cases k8 : k = 8
  · subst k8
    refine (does_8 h hI.ok nm hl N M hN hM).mono ?_
    rintro e w' ⟨rfl, hn⟩
    exact ⟨_, _, _, _, _, _, _, _, _, _, rfl, ans_plain rfl rfl rfl (by simp) (by simp), hn⟩
  by_cases k9 : k = 9
  · subst k9
    refine (does_9 h hI.ok nm hl N M hN hM).mono ?_
    rintro e w' ⟨rfl, hn⟩
    exact ⟨_, _, _, _, _, _, _, _, _, _, rfl, ans_plain rfl rfl rfl (by simp) (by simp), hn⟩
  by_cases k10 : k = 10
  · subst k10
    refine (does_10 h hI.ok nm hl N M hN hM).mono ?_
    rintro e w' ⟨rfl, hn⟩
    exact ⟨_, _, _, _, _, _, _, _, _, _, rfl, ans_plain rfl rfl rfl (by simp) (by simp), hn⟩
  by_cases k11 : k = 11
  · subst k11
    refine (does_11 h hI.ok nm hl N M hN hM).mono ?_
    rintro e w' ⟨rfl, hn⟩
    exact ⟨_, _, _, _, _, _, _, _, _, _, rfl, ans_plain rfl rfl rfl (by simp) (by simp), hn⟩
  by_cases k5 : k = 5
  · subst k5
    refine (does_5 h hI.ok nm hl N M hN hM).mono ?_
    rintro e w' ⟨a, cap, rfl, hown, hn⟩
    exact ⟨_, _, _, _, _, _, _, _, _, _, rfl, ⟨rfl, rfl, rfl, rfl, hown, [], List.Perm.refl _, List.Pairwise.nil, filesO_nil _ _⟩, hn⟩
  by_cases k6 : k = 6
  · subst k6
    refine (does_6 h hI.ok nm hl N M hN hM).mono ?_
    rintro e w' ⟨rfl, hn⟩
    exact ⟨_, _, _, _, _, _, _, _, _, _, rfl, ans_plain rfl rfl rfl (by simp) (by simp), hn⟩
  by_cases k7 : k = 7
  · subst k7
    refine (does_7 h hI.ok nm hl N M hN hM hxl hx).mono ?_
    rintro e w' ⟨g, cap, zs, rfl, ⟨w2, w3, hb2, hb3, hfp, w4, A, hb4, hC, hA1, hA2⟩, hn⟩
    refine ⟨_, _, _, _, _, _, _, _, _, _, rfl, ⟨rfl, ?_, rfl, rfl, ownF_nil _ _, ?_⟩, hn⟩
    · show (lenX xs : Int) = _
      rw [← used_lenX, ← h.fs]
      rfl
    · obtain ⟨l, h1, h2, h3⟩ := filesP_o hfp
      refine ⟨l, ?_, h2, ?_⟩
      · show l.Perm S.fs
        rw [h.fs]
        exact h1
      · exact ((h3.chg (D := fun _ => False) ⟨hb4.mono (Nat.zero_le _), fun g hg _ => hb4.block g hg⟩ (fun _ f => f.elim)).chg hC (fun g e => by omega)).mono hb2.size
  refine (does_0 h hI.ok nm hl N M hN hM k (by omega)).mono ?_
  rintro e w' ⟨rfl, hn⟩
  have hd : doesS S ⟨k, nm, ba, bc, B, N, M⟩ = S := by simp [doesS, k1, k2, k3, k4, k8, k9, k10, k11]
  refine ⟨_, _, _, _, _, _, _, _, _, _, rfl, ans_plain ?_ ?_ ?_ k5 k7, by rw [hd]; exact hn⟩
  · simp [ansE, k1, k2, k3, k4, k5, k6, k8, k9, k10, k11]
  · simp [ansN, k1, k6, k7]
  · simp [ansM, k6]
/-! ## Two disks -/
structure D2 (B : Nat) (W0 W : World) (p q : Nat) (S T : Dk) : Prop where
  two : ∃ b xs ck c ys dk, DiskAt W p b S xs ck ∧ DiskAt W q c T ys dk ∧ (∀ g, Blk p b xs g → ¬ Blk q c ys g) ∧ (∀ g, Blk p b xs g → B ≤ g) ∧ (∀ g, Blk q c ys g → B ≤ g) ∧ Below B W0 W
theorem D2.swap {B : Nat} {W0 W : World} {p q : Nat} {S T : Dk} (h : D2 B W0 W p q S T) : D2 B W0 W q p T S := by
  obtain ⟨b, xs, ck, c, ys, dk, h1, h2, h3, h4, h5, h6⟩ := h.two
  exact ⟨c, ys, dk, b, xs, ck, h2, h1, fun g hg hq => h3 g hq hg, h5, h4, h6⟩
theorem D2.below {B : Nat} {W0 W : World} {p q : Nat} {S T : Dk} (h : D2 B W0 W p q S T) : Below B W0 W := by
  obtain ⟨b, xs, ck, c, ys, dk, h1, h2, h3, h4, h5, h6⟩ := h.two
  exact h6
theorem D2.grow {B : Nat} {W0 W W' : World} {p q : Nat} {S T : Dk} (h : D2 B W0 W p q S T) (hB : B ≤ W0.heap.size) (hb : Below W.heap.size W W') : D2 B W0 W' p q S T := by
  obtain ⟨b, xs, ck, c, ys, dk, h1, h2, h3, h4, h5, h6⟩ := h.two
  exact ⟨b, xs, ck, c, ys, dk, h1.below hb, h2.below hb, h3, h4, h5, h6.trans (hb.mono (Nat.le_trans hB h6.size))⟩
/-- the first of two disks does something -/
theorem d2_next {B : Nat} {W0 W W' : World} {p q b c dk : Nat} {T S' : Dk} {xs ys : List X} (hB : B ≤ W0.heap.size) (h2 : DiskAt W q c T ys dk) (h3 : ∀ g, Blk p b xs g → ¬ Blk q c ys g) (h4 : ∀ g, Blk p b xs g → B ≤ g) (h5 : ∀ g, Blk q c ys g → B ≤ g) (h6 : Below B W0 W) (hn : Nxt W W' p b xs S') : D2 B W0 W' p q S' T := by
  obtain ⟨xs', ck', g1, g2, g3⟩ := hn
  have hsz := h6.size
  refine ⟨b, xs', ck', c, ys, dk, g1, h2.chg g2 (fun g hg hd => h3 g hd hg), fun g hg hq => ?_, fun g hg => ?_, h5, h6.trans (g2.below h4 (by omega))⟩
  · rcases g3 g hg with h | h
    · exact h3 g h hq
    · have := h2.lt hq; omega
  · rcases g3 g hg with h | h
    · exact h4 g h
    · omega
end Go.Proofs.Ytjcfeaekhefpfaa
