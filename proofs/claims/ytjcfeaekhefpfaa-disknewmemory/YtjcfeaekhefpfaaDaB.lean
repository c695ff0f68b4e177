import Derived.Test.YtjcfeaekhefpfaaDaA
/-! The disk in memory; going through the map; a file cut. -/
namespace Go.Proofs.Ytjcfeaekhefpfaa
open Go.RowKit Go.Lib
set_option maxRecDepth 100000

structure Dk where
  limit : Nat
  fs : List Fl
  down : Bool
  steps : Nat
  keep : Nat
def used (fs : List Fl) : Nat := (fs.map (fun f => f.bs.length)).sum
structure Dk.Ok (S : Dk) : Prop where
  lim : S.limit ≤ 1099511627776
  use : used S.fs ≤ S.limit
  st : S.steps ≤ 9223372036854775807
  kp : S.keep ≤ 9223372036854775807
structure DiskAt (W : World) (p b : Nat) (S : Dk) (xs : List X) (ck : Nat) : Prop where
  box : W.heap[p]? = some (.cells #[.int .i64 (S.limit : Int), .map (some b), .bool S.down, .int .i64 (S.steps : Int), .int .i64 (S.keep : Int)] 63)
  map : MapAt W b xs ck
  file : ∀ x ∈ xs, FileAt W x
  qs : (xs.map (·.q)).Nodup
  gs : xs.Pairwise (fun x y => ∀ g, x.v.ownBlock = some g → y.v.ownBlock ≠ some g)
  fs : S.fs = xs.map X.fl
/-- The blocks of a disk. -/
def Blk (p b : Nat) (xs : List X) (g : Nat) : Prop := g = p ∨ g = b ∨ ∃ x ∈ xs, g = x.q ∨ x.v.ownBlock = some g
theorem DiskAt.chg {W W' : World} {p b ck : Nat} {S : Dk} {xs : List X} {D : Nat → Prop} (h : DiskAt W p b S xs ck) (hC : Chg D W W') (hD : ∀ g, Blk p b xs g → ¬ D g) : DiskAt W' p b S xs ck :=
  ⟨hC.block h.box (hD p (.inl rfl)), h.map.chg hC (hD b (.inr (.inl rfl))), fun x hx => (h.file x hx).chg hC (hD _ (.inr (.inr ⟨x, hx, .inl rfl⟩))) (fun g hg => hD g (.inr (.inr ⟨x, hx, .inr hg⟩))), h.qs, h.gs, h.fs⟩
theorem FileAt.lt {W : World} {x : X} (h : FileAt W x) : x.q < W.heap.size := (Array.getElem?_eq_some_iff.1 h.box).1
theorem FileAt.vlt {W : World} {x : X} (h : FileAt W x) {g : Nat} (hg : x.v.ownBlock = some g) : g < W.heap.size := h.own.lt hg
theorem DiskAt.lt {W : World} {p b ck : Nat} {S : Dk} {xs : List X} (h : DiskAt W p b S xs ck) {g : Nat} (hg : Blk p b xs g) : g < W.heap.size := by
  rcases hg with rfl | rfl | ⟨x, hx, rfl | hg⟩
  · exact (Array.getElem?_eq_some_iff.1 h.box).1
  · exact (Array.getElem?_eq_some_iff.1 h.map.heap).1
  · exact (h.file x hx).lt
  · exact (h.file x hx).vlt hg
/-- What is new leaves a disk. -/
theorem DiskAt.below {W W' : World} {p b ck : Nat} {S : Dk} {xs : List X} (h : DiskAt W p b S xs ck) (hB : Below W.heap.size W W') : DiskAt W' p b S xs ck :=
  h.chg (D := fun g => W.heap.size ≤ g) (Chg.of_below hB) (fun g hg => by have := h.lt hg; omega)
theorem own_block {W : World} {v : Value} {l : List UInt8} (h : OwnF byU 1 5 W 0 v l) {g : Nat} (hg : v.ownBlock = some g) : ∃ cur : Array Value, W.heap[g]? = some (.cells cur 5) := by
  rcases h.2 with ⟨rfl, _⟩ | ⟨g', cap, cur, rfl, _, hh, _⟩
  · simp [Value.ownBlock] at hg
  · simp [Value.ownBlock] at hg
    subst hg
    exact ⟨_, hh⟩
/-- p, b, the structs and the rows are apart. -/
theorem DiskAt.p_ne_b {W : World} {p b ck : Nat} {S : Dk} {xs : List X} (h : DiskAt W p b S xs ck) : p ≠ b := by
  rintro rfl
  have h1 := h.box
  rw [h.map.heap] at h1
  cases h1
theorem DiskAt.p_ne_q {W : World} {p b ck : Nat} {S : Dk} {xs : List X} (h : DiskAt W p b S xs ck) {x : X} (hx : x ∈ xs) : p ≠ x.q := by
  intro e
  have h1 := h.box
  rw [e, (h.file x hx).box] at h1
  simp at h1
theorem DiskAt.b_ne_q {W : World} {p b ck : Nat} {S : Dk} {xs : List X} (h : DiskAt W p b S xs ck) {x : X} (hx : x ∈ xs) : b ≠ x.q := by
  intro e
  have h1 := h.map.heap
  rw [e, (h.file x hx).box] at h1
  cases h1
theorem DiskAt.p_ne_g {W : World} {p b ck : Nat} {S : Dk} {xs : List X} (h : DiskAt W p b S xs ck) {x : X} (hx : x ∈ xs) {g : Nat} (hg : x.v.ownBlock = some g) : p ≠ g := by
  rintro rfl
  obtain ⟨cur, hh⟩ := own_block (h.file x hx).own hg
  have h1 := h.box
  rw [hh] at h1
  simp at h1
theorem DiskAt.b_ne_g {W : World} {p b ck : Nat} {S : Dk} {xs : List X} (h : DiskAt W p b S xs ck) {x : X} (hx : x ∈ xs) {g : Nat} (hg : x.v.ownBlock = some g) : b ≠ g := by
  rintro rfl
  obtain ⟨cur, hh⟩ := own_block (h.file x hx).own hg
  have h1 := h.map.heap
  rw [hh] at h1
  simp at h1
theorem q_ne_g {W : World} {x y : X} (hx : FileAt W x) (hy : FileAt W y) {g : Nat} (hg : y.v.ownBlock = some g) : x.q ≠ g := by
  rintro rfl
  obtain ⟨cur, hh⟩ := own_block hy.own hg
  have h1 := hx.box
  rw [hh] at h1
  simp at h1
theorem nodup_apart {α β : Type} {f : α → β} {l r : List α} {x : α} (h : ((l ++ x :: r).map f).Nodup) {y : α} (hy : y ∈ l ∨ y ∈ r) : f y ≠ f x := by
  rw [List.map_append, List.map_cons, List.nodup_append] at h
  rcases hy with hy | hy
  · exact fun e => h.2.2 _ (List.mem_map.2 ⟨y, hy, rfl⟩) _ (List.mem_cons_self ..) e
  · exact fun e => (List.nodup_cons.1 h.2.1).1 (by rw [← e]; exact List.mem_map.2 ⟨y, hy, rfl⟩)
theorem gs_apart {l r : List X} {x : X} (h : (l ++ x :: r).Pairwise (fun x y => ∀ g, x.v.ownBlock = some g → y.v.ownBlock ≠ some g)) {y : X} (hy : y ∈ l ∨ y ∈ r) {g : Nat} (hg : x.v.ownBlock = some g) : y.v.ownBlock ≠ some g := by
  rw [List.pairwise_append] at h
  rcases hy with hy | hy
  · exact fun e => h.2.2 y hy x (List.mem_cons_self ..) g e hg
  · exact (List.pairwise_cons.1 h.2.1).1 y hy g hg
/-- One file changed. -/
theorem DiskAt.upd {W W' : World} {p b ck : Nat} {S : Dk} {l r : List X} {x x' : X} (h : DiskAt W p b S (l ++ x :: r) ck) (hC : Chg (fun g => g = x.q ∨ x.v.ownBlock = some g) W W') (hF : FileAt W' x') (hn : x'.nm = x.nm) (hq : x'.q = x.q) (hb : x'.born = x.born)
    (hv : ∀ g, x'.v.ownBlock = some g → x.v.ownBlock = some g ∨ W.heap.size ≤ g) : DiskAt W' p b { S with fs := l.map X.fl ++ x'.fl :: r.map X.fl } (l ++ x' :: r) ck := by
  have hx : x ∈ l ++ x :: r := by simp
  have hm : ∀ y, y ∈ l ∨ y ∈ r → y ∈ l ++ x :: r := fun y hy => by rcases hy with hy | hy <;> simp [hy]
  refine ⟨hC.block h.box (fun hd => ?_), ⟨?_, ?_, ?_, ?_⟩, ?_, ?_, ?_, ?_⟩
  · rcases hd with hd | hd
    · exact h.p_ne_q hx hd
    · exact h.p_ne_g hx hd rfl
  · have := hC.block h.map.heap (fun hd => by
      rcases hd with hd | hd
      · exact h.b_ne_q hx hd
      · exact h.b_ne_g hx hd rfl)
    rw [this]
    simp [mkE, hn, hq, hb]
  · intro y hy
    rcases List.mem_append.1 hy with hy | hy
    · exact h.map.lt y (hm y (.inl hy))
    · rcases List.mem_cons.1 hy with rfl | hy
      · rw [hb]; exact h.map.lt x hx
      · exact h.map.lt y (hm y (.inr hy))
  · have := h.map.born
    simp only [List.map_append, List.map_cons, hb] at this ⊢
    exact this
  · have := h.map.nm
    simp only [List.map_append, List.map_cons, hn] at this ⊢
    exact this
  · intro y hy
    have hk : ∀ y, y ∈ l ∨ y ∈ r → FileAt W' y := fun y hy => (h.file y (hm y hy)).chg hC (fun hd => by
      rcases hd with hd | hd
      · exact nodup_apart h.qs hy hd
      · exact q_ne_g (h.file y (hm y hy)) (h.file x hx) hd rfl) (fun g hg hd => by
      rcases hd with rfl | hd
      · exact q_ne_g (h.file x hx) (h.file y (hm y hy)) hg rfl
      · exact gs_apart h.gs hy hd hg)
    rcases List.mem_append.1 hy with hy | hy
    · exact hk y (.inl hy)
    · rcases List.mem_cons.1 hy with rfl | hy
      · exact hF
      · exact hk y (.inr hy)
  · have := h.qs
    simp only [List.map_append, List.map_cons, hq] at this ⊢
    exact this
  · have hg := h.gs
    rw [List.pairwise_append, List.pairwise_cons] at hg ⊢
    refine ⟨hg.1, ⟨fun y hy g e1 e2 => ?_, hg.2.1.2⟩, fun y hy z hz => ?_⟩
    · rcases hv g e1 with h1 | h1
      · exact hg.2.1.1 y hy g h1 e2
      · have := (h.file y (hm y (.inr hy))).vlt e2; omega
    · rcases List.mem_cons.1 hz with rfl | hz
      · intro g e1 e2
        rcases hv g e2 with h1 | h1
        · exact hg.2.2 y hy x (List.mem_cons_self ..) g e1 h1
        · have := (h.file y (hm y (.inl hy))).vlt e1; omega
      · exact hg.2.2 y hy z (List.mem_cons_of_mem _ hz)
  · simp

/-! ## Going through the map -/
structure RngAt (W : World) (r b : Nat) (cur ys : List X) (ck : Nat) : Prop where
  iter : ∃ since c0, W.heap[r]? = some (.mapIter (some b) since (ys.map (·.born)).toArray c0) ∧ (∀ x ∈ cur, x.born < since) ∧ since ≤ c0 ∧ since ≤ ck
theorem RngAt.chg {W W' : World} {r b ck : Nat} {cur ys : List X} {D : Nat → Prop} (h : RngAt W r b cur ys ck) (hC : Chg D W W') (hr : ¬ D r) : RngAt W' r b cur ys ck := by
  obtain ⟨since, c0, h1, h2⟩ := h.iter
  exact ⟨since, c0, hC.block h1 hr, h2⟩
theorem RngAt.sub {W : World} {r b ck : Nat} {cur cur' ys : List X} (h : RngAt W r b cur ys ck) (hs : ∀ x ∈ cur', x ∈ cur) : RngAt W r b cur' ys ck := by
  obtain ⟨since, c0, h1, h2, h3⟩ := h.iter
  exact ⟨since, c0, h1, fun x hx => h2 x (hs x hx), h3⟩
theorem RngAt.lt {W : World} {r b ck : Nat} {cur ys : List X} (h : RngAt W r b cur ys ck) : r < W.heap.size := by
  obtain ⟨since, c0, h1, _⟩ := h.iter
  exact (Array.getElem?_eq_some_iff.1 h1).1
theorem range_start {W : World} {b ck : Nat} {xs : List X} (h : MapAt W b xs ck) :
    (Instr.range 59 (.map (some b))).run Try.prog W = .ok (.pointer (some ⟨W.heap.size, 0, none⟩)) (W.alloc (.mapIter (some b) ck #[] ck)) ∧ RngAt (W.alloc (.mapIter (some b) ck #[] ck)) W.heap.size b xs [] ck :=
  ⟨run_range_map W _ _ _ b _ ck Try.underlying59 h.heap, ⟨ck, ck, (MapKept.heap_alloc W _).1, h.lt, Nat.le_refl _, Nat.le_refl _⟩⟩
theorem next_step {W : World} {b r ck : Nat} {cur ys : List X} (hm : MapAt W b cur ck) (hr : RngAt W r b cur ys ck) :
    ((∀ x ∈ cur, x.born ∈ ys.map (·.born)) ∧ ∀ ty, (Instr.next (.pointer (some ⟨r, 0, none⟩)) false ty).run Try.prog W = .ok (.tuple #[.bool false]) W) ∨
    ∃ x ∈ cur, x.born ∉ ys.map (·.born) ∧ ∃ W', (∀ ty, (Instr.next (.pointer (some ⟨r, 0, none⟩)) false ty).run Try.prog W = .ok (.tuple #[.bool true, .string ⟨x.nm.toArray⟩, .pointer (some ⟨x.q, 0, none⟩)]) W') ∧ RngAt W' r b cur (ys ++ [x]) ck ∧ Chg (fun g => g = r) W W' ∧ W'.heap.size = W.heap.size ∧
      (Instr.entry (.pointer (some ⟨r, 0, none⟩))).run Try.prog W' = .ok (.tuple #[.string ⟨x.nm.toArray⟩, .pointer (some ⟨x.q, 0, none⟩)]) W' := by
  obtain ⟨since, c0, h1, h2, h3, h4⟩ := hr.iter
  have hbr : b ≠ r := by
    rintro rfl
    have := hm.heap
    rw [h1] at this
    cases this
  have hmem : ∀ e, e ∈ (leftOf (cur.map mkE).toArray (ys.map (·.born)).toArray).toList ↔ ∃ x ∈ cur, x.born ∉ ys.map (·.born) ∧ mkE x = e := by
    intro e
    simp only [leftOf, Array.toList_filter, List.mem_filter, List.mem_map, Bool.not_eq_true']
    constructor
    · rintro ⟨⟨x, hx, rfl⟩, hc⟩
      refine ⟨x, hx, fun hin => ?_, rfl⟩
      have : ((ys.map (·.born)).toArray.contains (mkE x).born) = true := by simpa [mkE] using hin
      rw [this] at hc
      cases hc
    · rintro ⟨x, hx, hn, rfl⟩
      refine ⟨⟨x, hx, rfl⟩, ?_⟩
      cases hc : (ys.map (·.born)).toArray.contains (mkE x).born with
      | false => rfl
      | true => exact absurd (by simpa [mkE] using hc) hn
  rcases run_next_at (P := Try.prog) W 0 r b since c0 (ys.map (·.born)).toArray (cur.map mkE).toArray ck h1 hm.heap (by
      intro e he
      simp only [List.mem_map] at he
      obtain ⟨x, hx, rfl⟩ := he
      exact h2 x hx) h3 with ⟨h5, h6⟩ | ⟨e, he, w1, hw1, h6⟩
  · refine .inl ⟨fun x hx => ?_, fun _ => h6⟩
    by_cases hin : x.born ∈ ys.map (·.born)
    · exact hin
    · have := (hmem (mkE x)).2 ⟨x, hx, hin, rfl⟩
      rw [Array.eq_empty_of_size_eq_zero h5] at this
      simp at this
  · obtain ⟨x, hx, hn, rfl⟩ := (hmem e).1 he
    have hw : Chg (fun g => g = r) W w1 ∧ w1.heap = W.heap := by
      rcases hw1 with rfl | rfl
      · exact ⟨Chg.refl _ _, rfl⟩
      · exact ⟨(Chg.refl _ _).drew, rfl⟩
    have h1' : w1.heap[r]? = some (.mapIter (some b) since (ys.map (·.born)).toArray c0) := by rw [hw.2]; exact h1
    have e1 : ((ys.map (·.born)).toArray.push (mkE x).born) = ((ys ++ [x]).map (·.born)).toArray := by simp [mkE]
    have hlt : r < w1.heap.size := (Array.getElem?_eq_some_iff.1 h1').1
    have h7 : (ChangeMaps.setBlock w1 r (.mapIter (some b) since ((ys.map (·.born)).toArray.push (mkE x).born) ck)).heap[r]? = some (.mapIter (some b) since ((ys.map (·.born)).toArray.push (mkE x).born) ck) := (MapKept.heap_set h1').1
    have hC2 : Chg (fun g => g = r) w1 (ChangeMaps.setBlock w1 r (.mapIter (some b) since ((ys.map (·.born)).toArray.push (mkE x).born) ck)) := chg_setBlock _
    have hC := hw.1.trans hC2
    refine .inr ⟨x, hx, hn, _, fun _ => h6, ⟨since, ck, ?_, h2, h4, h4⟩, hC, ?_, ?_⟩
    · rw [← e1]; exact h7
    · show (w1.heap.setIfInBounds r _).size = _
      rw [Array.size_setIfInBounds, hw.2]
    · refine run_entry_at (P := Try.prog) _ r b since (ys.map (·.born)).toArray (cur.map mkE).toArray ck (mkE x) h7 (hC.block hm.heap hbr) ?_ ?_
      · exact List.mem_map.2 ⟨x, hx, rfl⟩
      · have := hm.born
        simp only [List.map_map]
        exact this

/-! ## A file cut -/
def cutV : Value → Nat → Value
  | .slice a _ c, n => .slice a n c
  | v, _ => v
theorem cutV_own (v : Value) (n : Nat) : (cutV v n).ownBlock = v.ownBlock := by
  cases v with
  | slice a l c => cases a <;> rfl
  | _ => rfl
theorem own_cut {W : World} {B : Nat} {v : Value} {l : List UInt8} (h : OwnF byU 1 5 W B v l) (n : Nat) (hn : n ≤ l.length) : OwnF byU 1 5 W B (cutV v n) (l.take n) := by
  have hlen : (l.take n).length = n := by rw [List.length_take]; omega
  have hflat : flatF byU (l.take n) = (flatF byU l).take n := by
    have : ∀ (l : List UInt8) (n : Nat), flatF byU (l.take n) = (flatF byU l).take n := by
      intro l
      induction l with
      | nil => intro n; simp [flatF]
      | cons x t ih =>
        intro n
        cases n with
        | zero => simp [flatF]
        | succ n =>
          have := ih n
          simp only [flatF] at this
          simp [flatF, this, byU]
    exact this l n
  refine ⟨by rw [hlen, hflat, List.length_take, flatF_length layU]; omega, ?_⟩
  rcases h.2 with ⟨rfl, h0⟩ | ⟨g, cap, cur, rfl, hB, hh, h1, h2, h3, h4⟩
  · obtain rfl : n = 0 := by omega
    exact .inl ⟨rfl, by simp⟩
  · refine .inr ⟨g, cap, cur, by rw [hlen]; rfl, hB, hh, by rw [hlen]; omega, h2, h3, ?_⟩
    rw [hflat, ← h4, hlen, List.take_take]
    congr 1
    omega
theorem own_shape {W : World} {B : Nat} {v : Value} {l : List UInt8} (h : OwnF byU 1 5 W B v l) : ∃ a cap, v = .slice a l.length cap ∧ l.length ≤ cap ∧ cap ≤ 9223372036854775807 ∧ Rw byU 1 W a l.length cap l := by
  obtain ⟨a, cap, rfl⟩ := h.shape
  have hr := h.rw_ layU
  have := hr.room
  simp only [maxLen] at this
  exact ⟨a, cap, rfl, this.1, this.2, hr⟩
def X.cut (x : X) (n : Nat) : X := { x with v := cutV x.v n, bs := x.bs.take n, syn := min x.syn n }
def X.sync (x : X) : X := { x with syn := x.bs.length }
def loseN (k : Nat) (x : X) : Nat := x.syn + min (x.bs.length - x.syn) k
def X.lose (k : Nat) (x : X) : X := (x.cut (loseN k x)).sync
end Go.Proofs.Ytjcfeaekhefpfaa
