import Derived.Test.YtdmhajlhpieedaaRpM
import Derived.Deep.RegionHeld3
import Derived.Deep.DeepCutAuto
import Derived.Laws.IdiomStrings
import Derived.Laws.CopyOwn
import Derived.Deep.DeepAppendWide
/-! A link: what changes, rows of bytes. -/
namespace Go.Proofs.Ytdmhajlhpieedaa
open Go.RowKit Go.Lib
set_option maxRecDepth 100000

/-- All stands but the blocks of D, and what is new. -/
def Chg (D : Nat → Prop) (w w' : World) : Prop := Below 0 w w' ∧ ∀ g, g < w.heap.size → ¬ D g → w'.heap[g]? = w.heap[g]?
theorem Chg.refl (D : Nat → Prop) (w : World) : Chg D w w := ⟨Below.refl _ _, fun _ _ _ => rfl⟩
theorem Chg.size {D : Nat → Prop} {a b : World} (h : Chg D a b) : a.heap.size ≤ b.heap.size := h.1.size
theorem Chg.trans {D : Nat → Prop} {a b c : World} (h : Chg D a b) (k : Chg D b c) : Chg D a c := ⟨h.1.trans k.1, fun g hg hq => (k.2 g (Nat.lt_of_lt_of_le hg h.1.size) hq).trans (h.2 g hg hq)⟩
theorem Chg.of_below {D : Nat → Prop} {a b : World} (h : Below a.heap.size a b) : Chg D a b := ⟨h.mono (Nat.zero_le _), fun g hg _ => h.block g hg⟩
theorem Chg.mono {D E : Nat → Prop} {a b : World} (h : Chg D a b) (hD : ∀ g, g < a.heap.size → D g → E g) : Chg E a b := ⟨h.1, fun g hg hE => h.2 g hg (fun hd => hE (hD g hg hd))⟩
theorem Chg.block {D : Nat → Prop} {a b : World} (h : Chg D a b) {g : Nat} {o : Obj} (hg : a.heap[g]? = some o) (hq : ¬ D g) : b.heap[g]? = some o := (h.2 g (Array.getElem?_eq_some_iff.1 hg).1 hq).trans hg
theorem Chg.set {D : Nat → Prop} {q : Nat} (i : Nat) (w : World) (u : Value) (hq : D q) : Chg D w (w.setCell ⟨q, i, none⟩ u) := ⟨(Below.refl _ _).setCell (Nat.zero_le _) _, fun g _ hk => Below.heap_setCell _ _ _ _ (by simp only; intro e; exact hk (e ▸ hq))⟩
theorem Chg.alloc (D : Nat → Prop) (w : World) (o : Obj) : Chg D w (w.alloc o) := Chg.of_below ((Below.refl _ _).alloc (Nat.le_refl _) _)
theorem Chg.drew {D : Nat → Prop} {a b : World} (h : Chg D a b) : Chg D a b.drew := ⟨h.1.drew, h.2⟩
theorem Chg.drewN {D : Nat → Prop} {a b : World} (h : Chg D a b) {m : Nat} : Chg D a (b.drewN m) := ⟨below_drewN h.1 m, h.2⟩
theorem Chg.cell {D : Nat → Prop} {a b : World} (h : Chg D a b) {p : Addr} (hp : p.block < a.heap.size) (hq : ¬ D p.block) : b.cell? p = a.cell? p := by
  obtain ⟨g, o, s⟩ := p
  have := h.2 g hp hq
  unfold World.cell?
  rw [this]
theorem Chg.below {D : Nat → Prop} {B : Nat} {a b : World} (h : Chg D a b) (hB : ∀ g, D g → B ≤ g) (hs : B ≤ a.heap.size) : Below B a b := ⟨h.1.os, h.1.tape, h.1.output, h.1.size, fun g hg => h.2 g (by omega) (fun hd => by have := hB g hd; omega)⟩
/-- What changes D and what is newer than a, seen from a. -/
theorem Chg.then {D E : Nat → Prop} {a b c : World} (h : Chg D a b) (k : Chg E b c) (hE : ∀ g, E g → D g ∨ a.heap.size ≤ g) : Chg D a c :=
  ⟨h.1.trans k.1, fun g hg hd => (k.2 g (Nat.lt_of_lt_of_le hg h.1.size) (fun he => by rcases hE g he with h1 | h1; exact hd h1; omega)).trans (h.2 g hg hd)⟩
theorem Rw.chg {α : Type} {f : α → List Value} {k : Nat} {D : Nat → Prop} {W W' : World} {a : Option Addr} {n cap : Nat} {l : List α} (h : Rw f k W a n cap l) (hC : Chg D W W') (hd : ∀ g, a = some g → ¬ D g.block) : Rw f k W' a n cap l :=
  ⟨h.len, h.room, fun hn => by
    obtain ⟨g, off, ha, hg, hc⟩ := h.cells hn
    exact ⟨g, off, ha, by have := hC.size; omega, fun j x hj i v hv => (hC.cell (p := ⟨g, off + j * k + i, none⟩) hg (hd ⟨g, off, none⟩ ha)).trans (hc j x hj i v hv)⟩⟩
theorem OwnF.chg {α : Type} {f : α → List Value} {k : Nat} {T : TypeId} {D : Nat → Prop} {a b : World} {B : Nat} {v : Value} {l : List α} (ho : OwnF f k T a B v l) (h : Chg D a b) (hq : ∀ g, v.ownBlock = some g → ¬ D g) : OwnF f k T b B v l := by
  refine ⟨ho.1, ?_⟩
  rcases ho.2 with h0 | ⟨g, cap, cur, e, h1, hh, rest⟩
  · exact .inl h0
  · exact .inr ⟨g, cap, cur, e, h1, h.block hh (hq g (by rw [e]; rfl)), rest⟩
theorem heap_setCell_cells {W : World} {b : Nat} {cs : Array Value} {T : TypeId} (h : W.heap[b]? = some (.cells cs T)) (i : Nat) (u : Value) : (W.setCell ⟨b, i, none⟩ u).heap[b]? = some (.cells (cs.setIfInBounds i u) T) := by
  unfold World.setCell
  simp [Array.getElem?_modify, h]
theorem box2 {W : World} {b : Nat} {T : TypeId} {v0 v1 : Value} (h : W.heap[b]? = some (.cells #[v0, v1] T)) : W.cell? ⟨b, 0, none⟩ = some v0 ∧ W.cell? ⟨b, 1, none⟩ = some v1 := by
  simp only [Lib.cell_of_heap h]
  exact ⟨rfl, rfl⟩
theorem box5 {W : World} {b : Nat} {T : TypeId} {v0 v1 v2 v3 v4 : Value} (h : W.heap[b]? = some (.cells #[v0, v1, v2, v3, v4] T)) : W.cell? ⟨b, 0, none⟩ = some v0 ∧ W.cell? ⟨b, 1, none⟩ = some v1 ∧ W.cell? ⟨b, 2, none⟩ = some v2 ∧ W.cell? ⟨b, 3, none⟩ = some v3 ∧ W.cell? ⟨b, 4, none⟩ = some v4 := by
  simp only [Lib.cell_of_heap h]
  exact ⟨rfl, rfl, rfl, rfl, rfl⟩

/-! ## Bytes -/
def byU (b : UInt8) : List Value := [.int .u8 (b.toNat : Int)]
theorem layU : Lay byU 1 := ⟨fun _ => rfl, by decide, fun x u hu => by simp [byU] at hu; subst hu; rfl⟩
theorem kindU : Kind Try.prog 34 5 1 1 := kind_of Try.underlying34 (z := .int .u8 0) (by kernel_rfl) rfl
theorem elemU : Try.prog.elem 34 = 5 := by kernel_rfl
theorem cutU (W : World) (a : Option Addr) (n cap m : Nat) (hm : m ≤ cap) : (Instr.slice 34 (.slice a n cap) none (some (.int .i64 (m : Int))) none).run Try.prog W = .ok (.slice a m cap) W := by
  obtain ⟨i, z, hi, hz, hsz, hby, _⟩ := kindU.info
  have := run_slice_h (P := Try.prog) W 34 a n cap (by rw [elemU]; exact kindU.under) .i64 (m : Int) (by omega) (by omega)
  rw [this, elemU]
  simp [sizeOf, typeInfo, hi, hsz, sliced]
  cases a with
  | none => simp
  | some q => simp [Addr.add]
theorem conv_bytes {W : World} {a : Option Addr} {n cap : Nat} {l : List UInt8} (h : Rw byU 1 W a n cap l) : (convert 34 9 (.slice a n cap)).run Try.prog W = .ok (.string ⟨l.toArray⟩) W := by
  have hl := h.len
  by_cases h0 : 0 < n
  · obtain ⟨g, off, rfl, hg, hc⟩ := h.cells h0
    have := run_convert_bytes_back (P := Try.prog) W 34 9 5 ⟨g, off, none⟩ cap l Try.underlying34 Try.underlying5 Try.underlying9 (fun j hj => by
      have hx : l[j]? = some l[j] := List.getElem?_eq_getElem hj
      have h1 := hc j _ hx 0 _ rfl
      rw [addr_add']
      simpa using h1)
    rw [hl] at this
    exact this
  · obtain rfl : n = 0 := by omega
    obtain rfl : l = [] := List.length_eq_zero_iff.1 hl
    cases a with
    | none =>
      rw [run_convert_bytes_string (P := Try.prog) W 34 9 5 none 0 cap Try.underlying34 Try.underlying5 Try.underlying9]
      simp [Conv.bytesToString]
      rfl
    | some q => exact run_convert_bytes_back (P := Try.prog) W 34 9 5 q cap [] Try.underlying34 Try.underlying5 Try.underlying9 (fun j hj => absurd hj (Nat.not_lt_zero _))

theorem box4 {W : World} {b : Nat} {T : TypeId} {v0 v1 v2 v3 : Value} (h : W.heap[b]? = some (.cells #[v0, v1, v2, v3] T)) : W.cell? ⟨b, 0, none⟩ = some v0 ∧ W.cell? ⟨b, 1, none⟩ = some v1 ∧ W.cell? ⟨b, 2, none⟩ = some v2 ∧ W.cell? ⟨b, 3, none⟩ = some v3 := by
  simp only [Lib.cell_of_heap h]
  exact ⟨rfl, rfl, rfl, rfl⟩
theorem box3 {W : World} {b : Nat} {T : TypeId} {v0 v1 v2 : Value} (h : W.heap[b]? = some (.cells #[v0, v1, v2] T)) : W.cell? ⟨b, 0, none⟩ = some v0 ∧ W.cell? ⟨b, 1, none⟩ = some v1 ∧ W.cell? ⟨b, 2, none⟩ = some v2 := by
  simp only [Lib.cell_of_heap h]
  exact ⟨rfl, rfl, rfl⟩
theorem Chg.setRow {D : Nat → Prop} {q : Nat} (w : World) (cs : Array Value) (hq : D q) : Chg D w (w.setRow q cs) := ⟨⟨rfl, rfl, rfl, by simp, fun k hk => absurd hk (Nat.not_lt_zero _)⟩, fun g _ hk => setRow_other _ _ _ _ (fun e => hk (e ▸ hq))⟩
end Go.Proofs.Ytdmhajlhpieedaa

/-! Rows that lie anywhere within their block: an append, one element taken out. -/
namespace Go.Proofs.Ytdmhajlhpieedaa
open Go.RowKit Go.Lib
set_option maxRecDepth 100000

/-- A slice whose block is pre, the row's cells, post: nobody else's. -/
def OffF {α : Type} (f : α → List Value) (k : Nat) (T : TypeId) (W : World) (v : Value) (l : List α) : Prop :=
  (v = .slice none 0 0 ∧ l = []) ∨ ∃ g pre post cap, v = .slice (some ⟨g, pre.length, none⟩) l.length cap ∧ W.heap[g]? = some (.cells (pre ++ flatF f l ++ post).toArray T) ∧ post.length = (cap - l.length) * k ∧ l.length ≤ cap ∧ cap ≤ maxLen
section
variable {α : Type} {f : α → List Value} {k : Nat} {T : TypeId}
theorem offF_nil (W : World) : OffF f k T W (.slice none 0 0) [] := .inl ⟨rfl, rfl⟩
theorem OffF.shape {W : World} {v : Value} {l : List α} (h : OffF f k T W v l) : ∃ a cap, v = .slice a l.length cap ∧ l.length ≤ cap ∧ cap ≤ maxLen := by
  rcases h with ⟨rfl, rfl⟩ | ⟨g, pre, post, cap, rfl, _, _, h1, h2⟩
  · exact ⟨_, _, rfl, Nat.le_refl _, Nat.zero_le _⟩
  · exact ⟨_, _, rfl, h1, h2⟩
theorem OffF.lt {W : World} {v : Value} {l : List α} (h : OffF f k T W v l) {g : Nat} (hg : v.ownBlock = some g) : g < W.heap.size := by
  rcases h with ⟨rfl, rfl⟩ | ⟨g', pre, post, cap, rfl, hh, _⟩
  · simp [Value.ownBlock] at hg
  · simp [Value.ownBlock] at hg; subst hg
    exact (Array.getElem?_eq_some_iff.1 hh).1
theorem OffF.block {W : World} {v : Value} {l : List α} (h : OffF f k T W v l) {g : Nat} (hg : v.ownBlock = some g) : ∃ cur : Array Value, W.heap[g]? = some (.cells cur T) := by
  rcases h with ⟨rfl, rfl⟩ | ⟨g', pre, post, cap, rfl, hh, _⟩
  · simp [Value.ownBlock] at hg
  · simp [Value.ownBlock] at hg; subst hg
    exact ⟨_, hh⟩
theorem OffF.chg {D : Nat → Prop} {W W' : World} {v : Value} {l : List α} (h : OffF f k T W v l) (hC : Chg D W W') (hd : ∀ g, v.ownBlock = some g → ¬ D g) : OffF f k T W' v l := by
  rcases h with h | ⟨g, pre, post, cap, rfl, hh, rest⟩
  · exact .inl h
  · exact .inr ⟨g, pre, post, cap, rfl, hC.block hh (hd g rfl), rest⟩
theorem mid_get {γ : Type} (a b c : List γ) (j : Nat) (hj : j < b.length) : (a ++ b ++ c)[a.length + j]? = b[j]? := by
  rw [List.append_assoc, List.getElem?_append_right (by omega), Nat.add_sub_cancel_left, List.getElem?_append_left hj]
theorem OffF.rw_ (hf : Lay f k) {W : World} {a : Option Addr} {n cap : Nat} {l : List α} (h : OffF f k T W (.slice a n cap) l) : Rw f k W a n cap l := by
  rcases h with ⟨e, rfl⟩ | ⟨g, pre, post, cap', e, hh, hp, h1, h2⟩
  · simp only [Value.slice.injEq] at e
    obtain ⟨rfl, rfl, rfl⟩ := e
    exact rw_nil W
  · simp only [Value.slice.injEq] at e
    obtain ⟨rfl, rfl, rfl⟩ := e
    refine ⟨rfl, ⟨h1, h2⟩, fun h0 => ⟨g, pre.length, rfl, (Array.getElem?_eq_some_iff.1 hh).1, fun j x hj i v hv => ?_⟩⟩
    have hi : i < k := by
      have := hf.len x
      rcases Nat.lt_or_ge i (f x).length with h' | h'
      · omega
      · rw [List.getElem?_eq_none h'] at hv; cases hv
    have hjl : j < l.length := by
      rcases Nat.lt_or_ge j l.length with h' | h'
      · exact h'
      · rw [List.getElem?_eq_none h'] at hj; cases hj
    have hlt : j * k + i < (flatF f l).length := by
      rw [flatF_length hf]
      have : (j + 1) * k ≤ l.length * k := Nat.mul_le_mul_right k hjl
      rw [Nat.add_mul] at this; omega
    simp only [World.cell?, hh]
    rw [Nat.add_assoc, List.getElem?_toArray, mid_get _ _ _ _ hlt, flatF_get hf l j x hj i hi, hv]
    rfl
theorem OwnF.offF {w : World} {B : Nat} {v : Value} {l : List α} (h : OwnF f k T w B v l) : OffF f k T w v l := by
  rcases h.2 with ⟨e, h0⟩ | ⟨g, cap, cur, e, _, hh, hn, hm, hsz, htk⟩
  · exact .inl ⟨e, List.length_eq_zero_iff.1 h0⟩
  · refine .inr ⟨g, [], cur.toList.drop (l.length * k), cap, e, ?_, ?_, hn, hm⟩
    · rw [hh, List.nil_append, ← htk, List.take_append_drop]
    · rw [List.length_drop, Array.length_toList, hsz, Nat.sub_mul]
/-- What an append's law leaves in the block. -/
theorem seg_put {γ : Type} (pre xs ys post : List γ) : (pre ++ xs ++ post).take (pre.length + xs.length) ++ ys ++ (pre ++ xs ++ post).drop (pre.length + xs.length + ys.length) = pre ++ (xs ++ ys) ++ post.drop ys.length := by
  have e1 : (pre ++ xs ++ post).take (pre.length + xs.length) = pre ++ xs := by
    rw [List.take_append_of_le_length (by simp), List.take_of_length_le (by simp)]
  have e2 : (pre ++ xs ++ post).drop (pre.length + xs.length + ys.length) = post.drop ys.length := by
    rw [List.drop_append, List.drop_eq_nil_of_le (by simp), List.nil_append]
    congr 1
    simp
  rw [e1, e2]
  simp [List.append_assoc]
/-- 'append' with room, the row anywhere in its block. -/
theorem run_append_off {P : Program} {S : TypeId} {by_ : Nat} (hK : Kind P S T k by_) (hf : Lay f k) {w : World} {g n cap : Nat} {pre post : List Value} {l ys : List α} (hh : w.heap[g]? = some (.cells (pre ++ flatF f l ++ post).toArray T)) (hn : l.length = n)
    (a : Addr) (m c : Nat) (hm : ys.length = m) (hy : ∀ j u, (flatF f ys)[j]? = some u → w.cell? (a.add j) = some u) (hroom : n + m ≤ cap) (hfit : (flatF f ys).length ≤ post.length) (ty : TypeId) :
    (Builtin.append_ #[S, S] ty #[.slice (some ⟨g, pre.length, none⟩) n cap, .slice (some a) m c]).run P w = .ok (.slice (some ⟨g, pre.length, none⟩) (n + m) cap) (w.setRow g (pre ++ flatF f (l ++ ys) ++ post.drop (flatF f ys).length).toArray) := by
  obtain ⟨i, z, hi, hz, hsz, hby, hzc⟩ := hK.info
  have hl : (flatF f ys).length = m * i.size := by rw [flatF_length hf, hm, hsz]
  have hfc := run_firstCells_some (P := P) w i.size m a m c (flatF f ys) hl hy
  have hst := run_storeCells_at P g (pre.length + n * i.size) T (flatF f ys) 0 _ w hh (by
    have := flatF_length hf l
    simp only [List.size_toArray, List.length_append, Nat.add_zero]
    rw [hsz, ← hn, ← this]; omega) (flatF_one hf ys)
  simp only [Nat.add_zero] at hst
  have e1 : n * i.size = (flatF f l).length := by rw [flatF_length hf, hn, hsz]
  rw [e1, seg_put] at hst
  rw [flatF_append]
  simp [Builtin.append_, run_underlying hK.under, sizeOf, typeInfo, hi, Builtin.lenOf, hroom, hfc, Addr.add_lit, hst, e1]
end
end Go.Proofs.Ytdmhajlhpieedaa

/-! A link in memory. -/
namespace Go.Proofs.Ytdmhajlhpieedaa
open Go.RowKit Go.Lib
set_option maxRecDepth 100000

/-- A flight as plain data. -/
structure Fg where
  num : Nat
  fr : Int
  tt : Int
  bs : List UInt8
  sp : Bool
/-- A flight in memory: where its bytes lie. -/
structure X where
  num : Nat
  fr : Int
  tt : Int
  a : Option Addr
  cap : Nat
  bs : List UInt8
  sp : Bool
def X.fg (x : X) : Fg := ⟨x.num, x.fr, x.tt, x.bs, x.sp⟩
def X.v (x : X) : Value := .slice x.a x.bs.length x.cap
def fv (x : X) : List Value := [.int .i64 (x.num : Int), .int .i64 x.fr, .int .i64 x.tt, .slice x.a x.bs.length x.cap, .bool x.sp]
def X.val (x : X) : Value := .agg #[.int .i64 (x.num : Int), .int .i64 x.fr, .int .i64 x.tt, .slice x.a x.bs.length x.cap, .bool x.sp]
theorem layV : Lay fv 5 := ⟨fun _ => rfl, by decide, fun x u hu => by
  simp only [fv, List.mem_cons, List.not_mem_nil, or_false] at hu
  rcases hu with rfl | rfl | rfl | rfl | rfl <;> rfl⟩
theorem kindV : Kind Try.prog 52 73 5 56 := kind_of Try.underlying52 (z := .agg #[.int .i64 0, .int .i64 0, .int .i64 0, .slice none 0 0, .bool false]) (by kernel_rfl) rfl
theorem elemV : Try.prog.elem 52 = 73 := by kernel_rfl
structure Lk where
  nodes : Nat
  most : Nat
  next : Nat
  fl : List Fg
structure Lk.Ok (S : Lk) : Prop where
  nd : S.nodes ≤ 9
  most : S.most ≤ 1048576
  len : S.fl.length ≤ S.most
  next : S.next ≤ 1152921504606846976
  rise : S.fl.Pairwise (fun x y => x.num < y.num)
  lt : ∀ f ∈ S.fl, f.num < S.next
structure LinkAt (W : World) (q : Nat) (S : Lk) (rv : Value) (xs : List X) : Prop where
  box : W.heap[q]? = some (.cells #[.int .i64 (S.nodes : Int), .int .i64 (S.most : Int), .int .i64 (S.next : Int), rv] 68)
  row : OffF fv 5 73 W rv xs
  own : ∀ x ∈ xs, OwnF byU 1 5 W 0 x.v x.bs
  gs : xs.Pairwise (fun x y => ∀ g, x.v.ownBlock = some g → y.v.ownBlock ≠ some g)
  fl : S.fl = xs.map X.fg
/-- The blocks of a link. -/
def Blk (q : Nat) (rv : Value) (xs : List X) (g : Nat) : Prop := g = q ∨ rv.ownBlock = some g ∨ ∃ x ∈ xs, x.v.ownBlock = some g
theorem own_block {W : World} {v : Value} {l : List UInt8} (h : OwnF byU 1 5 W 0 v l) {g : Nat} (hg : v.ownBlock = some g) : ∃ cur : Array Value, W.heap[g]? = some (.cells cur 5) := by
  rcases h.2 with ⟨rfl, _⟩ | ⟨g', cap, cur, rfl, _, hh, _⟩
  · simp [Value.ownBlock] at hg
  · simp [Value.ownBlock] at hg
    subst hg
    exact ⟨_, hh⟩
section
variable {W W' : World} {q : Nat} {S : Lk} {rv : Value} {xs : List X}
theorem LinkAt.qlt (h : LinkAt W q S rv xs) : q < W.heap.size := (Array.getElem?_eq_some_iff.1 h.box).1
theorem LinkAt.lt (h : LinkAt W q S rv xs) {g : Nat} (hg : Blk q rv xs g) : g < W.heap.size := by
  rcases hg with rfl | hg | ⟨x, hx, hg⟩
  · exact h.qlt
  · exact h.row.lt hg
  · exact (h.own x hx).lt hg
theorem LinkAt.chg {D : Nat → Prop} (h : LinkAt W q S rv xs) (hC : Chg D W W') (hD : ∀ g, Blk q rv xs g → ¬ D g) : LinkAt W' q S rv xs :=
  ⟨hC.block h.box (hD q (.inl rfl)), h.row.chg hC (fun g hg => hD g (.inr (.inl hg))), fun x hx => (h.own x hx).chg hC (fun g hg => hD g (.inr (.inr ⟨x, hx, hg⟩))), h.gs, h.fl⟩
theorem LinkAt.below (h : LinkAt W q S rv xs) (hB : Below W.heap.size W W') : LinkAt W' q S rv xs :=
  h.chg (D := fun g => W.heap.size ≤ g) (Chg.of_below hB) (fun g hg => by have := h.lt hg; omega)
theorem LinkAt.q_ne_r (h : LinkAt W q S rv xs) {g : Nat} (hg : rv.ownBlock = some g) : q ≠ g := by
  rintro rfl
  obtain ⟨cur, hh⟩ := h.row.block hg
  have h1 := h.box
  rw [hh] at h1
  simp at h1
theorem LinkAt.q_ne_g (h : LinkAt W q S rv xs) {x : X} (hx : x ∈ xs) {g : Nat} (hg : x.v.ownBlock = some g) : q ≠ g := by
  rintro rfl
  obtain ⟨cur, hh⟩ := own_block (h.own x hx) hg
  have h1 := h.box
  rw [hh] at h1
  simp at h1
theorem LinkAt.r_ne_g (h : LinkAt W q S rv xs) {r : Nat} (hr : rv.ownBlock = some r) {x : X} (hx : x ∈ xs) {g : Nat} (hg : x.v.ownBlock = some g) : r ≠ g := by
  rintro rfl
  obtain ⟨cur, hh⟩ := own_block (h.own x hx) hg
  obtain ⟨cur2, h1⟩ := h.row.block hr
  rw [hh] at h1
  simp at h1
theorem LinkAt.len (h : LinkAt W q S rv xs) : xs.length = S.fl.length := by rw [h.fl, List.length_map]
/-- What a call leaves of a link: its new state, and what has changed. -/
def Nx (W W' : World) (q : Nat) (rv : Value) (xs : List X) (S' : Lk) : Prop := ∃ rv' xs', LinkAt W' q S' rv' xs' ∧ Chg (Blk q rv xs) W W' ∧ ∀ g, Blk q rv' xs' g → Blk q rv xs g ∨ W.heap.size ≤ g
theorem LinkAt.nx (h : LinkAt W q S rv xs) (hB : Below W.heap.size W W') : Nx W W' q rv xs S := ⟨rv, xs, h.below hB, Chg.of_below hB, fun _ hg => .inl hg⟩
end
end Go.Proofs.Ytdmhajlhpieedaa
