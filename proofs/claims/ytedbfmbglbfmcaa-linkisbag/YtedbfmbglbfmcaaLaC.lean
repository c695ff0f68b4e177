import Derived.Test.YtedbfmbglbfmcaaLaB
/-! A link in memory. -/
namespace Go.Proofs.Ytedbfmbglbfmcaa
open Go.RowKit Go.Lib
set_option maxRecDepth 100000

/-- A flight as plain data. -/
structure Fg where
  num : Nat
  fr : Int
  tt : Int
  bs : List UInt8
  sp : Bool
/-- A flight in memory: where its bytes lie. -/
structure X where
  num : Nat
  fr : Int
  tt : Int
  a : Option Addr
  cap : Nat
  bs : List UInt8
  sp : Bool
def X.fg (x : X) : Fg := ⟨x.num, x.fr, x.tt, x.bs, x.sp⟩
def X.v (x : X) : Value := .slice x.a x.bs.length x.cap
def fv (x : X) : List Value := [.int .i64 (x.num : Int), .int .i64 x.fr, .int .i64 x.tt, .slice x.a x.bs.length x.cap, .bool x.sp]
def X.val (x : X) : Value := .agg #[.int .i64 (x.num : Int), .int .i64 x.fr, .int .i64 x.tt, .slice x.a x.bs.length x.cap, .bool x.sp]
theorem layV : Lay fv 5 := ⟨fun _ => rfl, by decide, fun x u hu => by
  simp only [fv, List.mem_cons, List.not_mem_nil, or_false] at hu
  rcases hu with rfl | rfl | rfl | rfl | rfl <;> rfl⟩
theorem kindV : Kind Try.prog 52 73 5 56 := kind_of Try.underlying52 (z := .agg #[.int .i64 0, .int .i64 0, .int .i64 0, .slice none 0 0, .bool false]) (by kernel_rfl) rfl
theorem elemV : Try.prog.elem 52 = 73 := by kernel_rfl
structure Lk where
  nodes : Nat
  most : Nat
  next : Nat
  fl : List Fg
structure Lk.Ok (S : Lk) : Prop where
  nd : S.nodes ≤ 9
  most : S.most ≤ 1048576
  len : S.fl.length ≤ S.most
  next : S.next ≤ 1152921504606846976
  rise : S.fl.Pairwise (fun x y => x.num < y.num)
  lt : ∀ f ∈ S.fl, f.num < S.next
structure LinkAt (W : World) (q : Nat) (S : Lk) (rv : Value) (xs : List X) : Prop where
  box : W.heap[q]? = some (.cells #[.int .i64 (S.nodes : Int), .int .i64 (S.most : Int), .int .i64 (S.next : Int), rv] 68)
  row : OffF fv 5 73 W rv xs
  own : ∀ x ∈ xs, OwnF byU 1 5 W 0 x.v x.bs
  gs : xs.Pairwise (fun x y => ∀ g, x.v.ownBlock = some g → y.v.ownBlock ≠ some g)
  fl : S.fl = xs.map X.fg
/-- The blocks of a link. -/
def Blk (q : Nat) (rv : Value) (xs : List X) (g : Nat) : Prop := g = q ∨ rv.ownBlock = some g ∨ ∃ x ∈ xs, x.v.ownBlock = some g
theorem own_block {W : World} {v : Value} {l : List UInt8} (h : OwnF byU 1 5 W 0 v l) {g : Nat} (hg : v.ownBlock = some g) : ∃ cur : Array Value, W.heap[g]? = some (.cells cur 5) := by
  rcases h.2 with ⟨rfl, _⟩ | ⟨g', cap, cur, rfl, _, hh, _⟩
  · simp [Value.ownBlock] at hg
  · simp [Value.ownBlock] at hg
    subst hg
    exact ⟨_, hh⟩
section
variable {W W' : World} {q : Nat} {S : Lk} {rv : Value} {xs : List X}
theorem LinkAt.qlt (h : LinkAt W q S rv xs) : q < W.heap.size := (Array.getElem?_eq_some_iff.1 h.box).1
theorem LinkAt.lt (h : LinkAt W q S rv xs) {g : Nat} (hg : Blk q rv xs g) : g < W.heap.size := by
  rcases hg with rfl | hg | ⟨x, hx, hg⟩
  · exact h.qlt
  · exact h.row.lt hg
  · exact (h.own x hx).lt hg
theorem LinkAt.chg {D : Nat → Prop} (h : LinkAt W q S rv xs) (hC : Chg D W W') (hD : ∀ g, Blk q rv xs g → ¬ D g) : LinkAt W' q S rv xs :=
  ⟨hC.block h.box (hD q (.inl rfl)), h.row.chg hC (fun g hg => hD g (.inr (.inl hg))), fun x hx => (h.own x hx).chg hC (fun g hg => hD g (.inr (.inr ⟨x, hx, hg⟩))), h.gs, h.fl⟩
theorem LinkAt.below (h : LinkAt W q S rv xs) (hB : Below W.heap.size W W') : LinkAt W' q S rv xs :=
  h.chg (D := fun g => W.heap.size ≤ g) (Chg.of_below hB) (fun g hg => by have := h.lt hg; omega)
theorem LinkAt.q_ne_r (h : LinkAt W q S rv xs) {g : Nat} (hg : rv.ownBlock = some g) : q ≠ g := by
  rintro rfl
  obtain ⟨cur, hh⟩ := h.row.block hg
  have h1 := h.box
  rw [hh] at h1
  simp at h1
theorem LinkAt.q_ne_g (h : LinkAt W q S rv xs) {x : X} (hx : x ∈ xs) {g : Nat} (hg : x.v.ownBlock = some g) : q ≠ g := by
  rintro rfl
  obtain ⟨cur, hh⟩ := own_block (h.own x hx) hg
  have h1 := h.box
  rw [hh] at h1
  simp at h1
theorem LinkAt.r_ne_g (h : LinkAt W q S rv xs) {r : Nat} (hr : rv.ownBlock = some r) {x : X} (hx : x ∈ xs) {g : Nat} (hg : x.v.ownBlock = some g) : r ≠ g := by
  rintro rfl
  obtain ⟨cur, hh⟩ := own_block (h.own x hx) hg
  obtain ⟨cur2, h1⟩ := h.row.block hr
  rw [hh] at h1
  simp at h1
theorem LinkAt.len (h : LinkAt W q S rv xs) : xs.length = S.fl.length := by rw [h.fl, List.length_map]
/-- What a call leaves of a link: its new state, and what has changed. -/
def Nx (W W' : World) (q : Nat) (rv : Value) (xs : List X) (S' : Lk) : Prop := ∃ rv' xs', LinkAt W' q S' rv' xs' ∧ Chg (Blk q rv xs) W W' ∧ ∀ g, Blk q rv' xs' g → Blk q rv xs g ∨ W.heap.size ≤ g
theorem LinkAt.nx (h : LinkAt W q S rv xs) (hB : Below W.heap.size W W') : Nx W W' q rv xs S := ⟨rv, xs, h.below hB, Chg.of_below hB, fun _ hg => .inl hg⟩
end
end Go.Proofs.Ytedbfmbglbfmcaa
