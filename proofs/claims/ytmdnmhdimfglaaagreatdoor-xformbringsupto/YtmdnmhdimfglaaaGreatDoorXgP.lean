import Derived.Test.YtmdnmhdimfglaaaGreatDoorGr10
import Derived.Test.YtmdnmhdimfglaaaGreatDoorGaI
import Derived.Test.YtmdnmhdimfglaaaGreatDoorRows
import Derived.SizedLaws
namespace Go.Proofs.YtmdnmhdimfglaaaGreatDoor
open Go.ChangeShapes Go.WideShapes Go.ChangeAt Go.RowKit Go.WideMaps Go.WideElems Go.Lib
set_option maxRecDepth 100000
theorem cellsI64 : Tryz.prog.cellsOf 3 = 1 := by kernel_rfl
theorem cellsKind : Tryz.prog.cellsOf 29 = 1 := by kernel_rfl
theorem cellsBool : Tryz.prog.cellsOf 4 = 1 := by kernel_rfl
theorem cellsStrg : Tryz.prog.cellsOf 9 = 1 := by kernel_rfl
theorem cellsRgs : Tryz.prog.cellsOf 32 = 1 := by kernel_rfl
theorem cellsRg : Tryz.prog.cellsOf 91 = 2 := by kernel_rfl
theorem cellsID : Tryz.prog.cellsOf 28 = 2 := by kernel_rfl
theorem cellsHead : Tryz.prog.cellsOf 31 = 3 := by kernel_rfl
theorem cellsOp9 : Tryz.prog.cellsOf 34 = 9 := by kernel_rfl
theorem cellsOps : Tryz.prog.cellsOf 23 = 1 := by kernel_rfl
theorem cellsXop : Tryz.prog.cellsOf 46 = 24 := by kernel_rfl
theorem list_ofE {α : Type} {P : Nat → α → Prop} : ∀ m : Nat, (∀ j, j < m → ∃ x, P j x) → ∃ l : List α, l.length = m ∧ ∀ (j : Nat) x, l[j]? = some x → P j x
  | 0, _ => ⟨[], rfl, fun j x h => by simp at h⟩
  | m + 1, h => by
    obtain ⟨l, hl, hp⟩ := list_ofE m (fun j hj => h j (by omega))
    obtain ⟨x, hx⟩ := h m (by omega)
    refine ⟨l ++ [x], by simp [hl], fun j y hy => ?_⟩
    by_cases hj : j < l.length
    · rw [List.getElem?_append_left hj] at hy
      exact hp j y hy
    · rw [List.getElem?_append_right (by omega)] at hy
      obtain ⟨hk, rfl⟩ := List.getElem?_eq_some_iff.1 hy
      simp at hk
      have : j = m := by omega
      subst this
      simpa using hx
theorem rw_of_cells {α : Type} {f : α → List Value} {k : Nat} (hf : Lay f k) {W : World} {a : Addr} {len cap : Nat} {P : α → Prop} (hl : len ≤ cap) (hm : cap ≤ maxLen)
    (hel : ∀ j, j < len → ∃ p : α, P p ∧ ∃ cs, W.cells? 0 (a.add (j * k)) k = some cs ∧ cs = f p) : ∃ l : List α, Rw f k W (some a) len cap l ∧ ∀ x ∈ l, P x := by
  by_cases h0 : len = 0
  · subst h0
    exact ⟨[], ⟨rfl, ⟨hl, hm⟩, fun h => absurd h (Nat.lt_irrefl _)⟩, fun x hx => by cases hx⟩
  · have hk := hf.pos
    obtain ⟨g, off, spot⟩ := a
    have hcell : ∀ j, j < len → ∃ p : α, P p ∧ ∀ i v, (f p)[i]? = some v → W.cell? (((⟨g, off, spot⟩ : Addr).add (j * k)).add i) = some v := fun j hj => by
      obtain ⟨p, hP, cs, hcs, rfl⟩ := hel j hj
      obtain ⟨_, _, hc⟩ := World.cells?_some hcs
      refine ⟨p, hP, fun i v hv => ?_⟩
      obtain ⟨hi, _⟩ := List.getElem?_eq_some_iff.1 hv
      exact (hc i (by rw [hf.len] at hi; exact hi)).trans hv
    have hspot : spot = none := by
      obtain ⟨p, _, h1⟩ := hcell 0 (by omega)
      have hlp : 0 < (f p).length := by rw [hf.len]; exact hk
      have := h1 0 _ (List.getElem?_eq_getElem hlp)
      simpa [Addr.add] using World.cell?_spot this
    subst hspot
    obtain ⟨l, hll, hp⟩ := list_ofE len hcell
    refine ⟨l, ⟨hll, ⟨hl, hm⟩, fun _ => ⟨g, off, rfl, ?_, fun j x hj i v hv => ?_⟩⟩, fun x hx => ?_⟩
    · obtain ⟨p, _, h1⟩ := hcell 0 (by omega)
      have hlp : 0 < (f p).length := by rw [hf.len]; exact hk
      exact World.block_lt_of_cell? _ _ (by
        have := h1 0 _ (List.getElem?_eq_getElem hlp)
        rw [addr_add', addr_add'] at this
        exact this)
    · have := (hp j x hj).2 i v hv
      rw [addr_add', addr_add'] at this
      exact this
    · obtain ⟨j, hj⟩ := List.getElem?_of_mem hx
      exact (hp j x hj).1
theorem open_rg {H : Type} {enc : TypeId × Value → H} {W : World} {fuel : Nat} {cs : List Value} {x : DataW H × List MemPlace}
    (h : DataW.trod enc Tryz.prog W 0 (fun _ => true) true fuel 91 cs = some x) : ∃ p : Int × Int, cs = rangeV p := by
  obtain ⟨xs, m, _, hx, hl, hlen, hel⟩ := DataW.trod_struct Tryz.underlying91 h
  rw [cellsRg] at hl
  match cs, hl, xs, hlen, hel with
  | [c0, c1], _, [y0, y1], _, hel =>
    have q0 : DataW.trod enc Tryz.prog W 0 (fun _ => true) true m 3 [c0] = some y0 := by simpa [cellsI64] using hel 0 _ rfl
    have q1 : DataW.trod enc Tryz.prog W 0 (fun _ => true) true m 3 [c1] = some y1 := by simpa [cellsI64] using hel 1 _ rfl
    obtain ⟨x0, e0, _, _⟩ := DataW.trod_int Tryz.underlying3 q0
    obtain ⟨x1, e1, _, _⟩ := DataW.trod_int Tryz.underlying3 q1
    simp only [List.cons.injEq, and_true] at e0 e1
    subst e0 e1
    exact ⟨(x0, x1), rfl⟩
theorem bulk_mem {H : Type} : ∀ {ds : List (DataW H)} {d : DataW H}, d ∈ ds → Rows.uptoBulk d ≤ Rows.uptoBulkAll ds
  | [], _, h => by cases h
  | x :: r, d, h => by
    simp only [Rows.uptoBulkAll]
    rcases List.mem_cons.1 h with rfl | h
    · omega
    · have := bulk_mem h
      omega
theorem bulk_pos {H : Type} (d : DataW H) : 1 ≤ Rows.uptoBulk d := by
  cases d with
  | lit l => cases l <;> simp [Rows.uptoBulk]
  | _ => simp [Rows.uptoBulk]
theorem bulk_len {H : Type} : ∀ ds : List (DataW H), ds.length ≤ Rows.uptoBulkAll ds
  | [] => Nat.zero_le _
  | d :: r => by
    have h1 := bulk_pos d
    have h2 := bulk_len r
    simp only [Rows.uptoBulkAll, List.length_cons]
    omega
theorem open_row {H : Type} {enc : TypeId × Value → H} {W : World} {fuel : Nat} {α : Type} {f : α → List Value} {k : Nat} (hf : Lay f k) {S E : TypeId} (hu : Tryz.prog.underlying S = some (.slice E)) (hk : Tryz.prog.cellsOf E = k) {P : α → Prop} {c : Value} {y : DataW H × List MemPlace}
    (h : DataW.trod enc Tryz.prog W 0 (fun _ => true) true fuel S [c] = some y) (hb : Rows.uptoBulk y.1 ≤ 1048576)
    (hel : ∀ (m : Nat) (cs : List Value) (x : DataW H × List MemPlace), DataW.trod enc Tryz.prog W 0 (fun _ => true) true m E cs = some x → Rows.uptoBulk x.1 ≤ 1048576 → ∃ p, P p ∧ cs = f p) :
    ∃ a n cap l, c = .slice a n cap ∧ Rw f k W a n cap l ∧ n ≤ 1048576 ∧ ∀ x ∈ l, P x := by
  rcases DataW.trod_slice hu h with ⟨hc, _⟩ | ⟨a, len, cap, elems, rest, m, _, hc, hx, _, hl, hm, hlen, he1, _, _⟩
  · simp only [List.cons.injEq, and_true] at hc
    exact ⟨none, 0, 0, [], hc, rw_nil W, by omega, fun x hx => by cases hx⟩
  · simp only [List.cons.injEq, and_true] at hc
    rw [hx] at hb
    simp only [Rows.uptoBulk] at hb
    have hle := bulk_len (elems.map (·.1))
    rw [List.length_map] at hle
    obtain ⟨L, hr, hP⟩ := rw_of_cells hf hl hm (a := a) (W := W) (P := P) (fun j hj => by
      have he := he1 j hj
      rw [List.getElem?_eq_getElem (by omega : j < elems.length), hk] at he
      obtain ⟨cs, hcs, htr⟩ := Option.bind_eq_some_iff.1 he
      have hmem := (List.mem_map.2 ⟨_, List.getElem_mem (by omega : j < elems.length), rfl⟩ : (elems[j]).1 ∈ elems.map (·.1))
      have hbm := bulk_mem hmem
      obtain ⟨p, hp, hcsp⟩ := hel _ _ _ htr (by omega)
      exact ⟨p, hp, cs, hcs, hcsp⟩)
    exact ⟨some a, len, cap, L, hc, hr, by omega, hP⟩
theorem open_rgs {H : Type} {enc : TypeId × Value → H} {W : World} {fuel : Nat} {c : Value} {y : DataW H × List MemPlace} (h : DataW.trod enc Tryz.prog W 0 (fun _ => true) true fuel 32 [c] = some y) (hb : Rows.uptoBulk y.1 ≤ 1048576) : ∃ a n cap l, c = .slice a n cap ∧ Rw rangeV 2 W a n cap l ∧ n ≤ 1048576 := by
  obtain ⟨a, n, cap, l, h1, h2, h3, _⟩ := open_row layG Tryz.underlying32 cellsRg (P := fun _ => True) h hb (fun _ _ _ hx _ => by
    obtain ⟨p, hp⟩ := open_rg hx
    exact ⟨p, trivial, hp⟩)
  exact ⟨a, n, cap, l, h1, h2, h3⟩
theorem open_id2 {H : Type} {enc : TypeId × Value → H} {W : World} {fuel : Nat} {cs : List Value} {x : DataW H × List MemPlace}
    (h : DataW.trod enc Tryz.prog W 0 (fun _ => true) true fuel 28 cs = some x) : ∃ a b, cs = [.int .i64 a, .int .i64 b] := by
  obtain ⟨xs, m, _, hx, hl, hlen, hel⟩ := DataW.trod_array Tryz.underlying28 h
  rw [cellsID] at hl
  rw [cellsI64] at hel
  match cs, hl, xs, hlen, hx, hel with
  | [c0, c1], _, [y0, y1], _, hx, hel =>
    have q0 : DataW.trod enc Tryz.prog W 0 (fun _ => true) true m 3 [c0] = some y0 := by simpa using hel 0 (by decide)
    have q1 : DataW.trod enc Tryz.prog W 0 (fun _ => true) true m 3 [c1] = some y1 := by simpa using hel 1 (by decide)
    obtain ⟨a, e0, _, _⟩ := DataW.trod_int Tryz.underlying3 q0
    obtain ⟨b, e1, _, _⟩ := DataW.trod_int Tryz.underlying3 q1
    simp only [List.cons.injEq, and_true] at e0 e1
    subst e0 e1
    exact ⟨a, b, rfl⟩
theorem open_head {H : Type} {enc : TypeId × Value → H} {W : World} {fuel : Nat} {cs : List Value} {x : DataW H × List MemPlace}
    (h : DataW.trod enc Tryz.prog W 0 (fun _ => true) true fuel 31 cs = some x) : ∃ a b k, cs = [.int .i64 a, .int .i64 b, .int .i64 k] := by
  obtain ⟨xs, m, _, hx, hl, hlen, hel⟩ := DataW.trod_struct Tryz.underlying31 h
  rw [cellsHead] at hl
  match cs, hl, xs, hlen, hx, hel with
  | [c0, c1, c2], _, [y0, y1], _, hx, hel =>
    have q0 : DataW.trod enc Tryz.prog W 0 (fun _ => true) true m 28 [c0, c1] = some y0 := by simpa [cellsID] using hel 0 _ rfl
    have q1 : DataW.trod enc Tryz.prog W 0 (fun _ => true) true m 29 [c2] = some y1 := by simpa [cellsKind] using hel 1 _ rfl
    obtain ⟨a, b, e0⟩ := open_id2 q0
    obtain ⟨k, e1, _, _⟩ := DataW.trod_int Tryz.underlying29 q1
    simp only [List.cons.injEq, and_true] at e0 e1
    obtain ⟨rfl, rfl⟩ := e0
    subst e1
    exact ⟨a, b, k, rfl⟩
theorem open_op {H : Type} {enc : TypeId × Value → H} {W : World} {fuel : Nat} {cs : List Value} {x : DataW H × List MemPlace}
    (h : DataW.trod enc Tryz.prog W 0 (fun _ => true) true fuel 34 cs = some x) (hb : Rows.uptoBulk x.1 ≤ 1048576) : ∃ y : OpM, OpOk W y ∧ cs = opF y := by
  obtain ⟨xs, f, _, hx, hl, hlen, hel⟩ := DataW.trod_struct Tryz.underlying34 h
  rw [cellsOp9] at hl
  match cs, hl, xs, hlen, hx, hel with
  | [c0, c1, c2, c3, c4, c5, c6, c7, c8], _, [y0, y1, y2, y3, y4, y5], _, hx, hel =>
    have q0 : DataW.trod enc Tryz.prog W 0 (fun _ => true) true f 31 [c0, c1, c2] = some y0 := by simpa [cellsHead] using hel 0 _ rfl
    have q1 : DataW.trod enc Tryz.prog W 0 (fun _ => true) true f 3 [c3] = some y1 := by simpa [cellsI64] using hel 1 _ rfl
    have q2 : DataW.trod enc Tryz.prog W 0 (fun _ => true) true f 9 [c4] = some y2 := by simpa [cellsStrg] using hel 2 _ rfl
    have q3 : DataW.trod enc Tryz.prog W 0 (fun _ => true) true f 32 [c5] = some y3 := by simpa [cellsRgs] using hel 3 _ rfl
    have q4 : DataW.trod enc Tryz.prog W 0 (fun _ => true) true f 28 [c6, c7] = some y4 := by simpa [cellsID] using hel 4 _ rfl
    have q5 : DataW.trod enc Tryz.prog W 0 (fun _ => true) true f 4 [c8] = some y5 := by simpa [cellsBool] using hel 5 _ rfl
    have hd : x.1 = .agg [y0.1, y1.1, y2.1, y3.1, y4.1, y5.1] := by
      have := congrArg Prod.fst hx
      simpa using this
    rw [hd] at hb
    simp only [Rows.uptoBulk, Rows.uptoBulkAll] at hb
    obtain ⟨a0, b0, k0, e0⟩ := open_head q0
    obtain ⟨p, e1, _, _⟩ := DataW.trod_int Tryz.underlying3 q1
    obtain ⟨s, e2, hy2, hs⟩ := DataW.trod_string Tryz.underlying9 q2
    obtain ⟨ra, rm, rc, l, e3, hr, hm⟩ := open_rgs q3 (by omega)
    obtain ⟨ta, tb, e4⟩ := open_id2 q4
    obtain ⟨on, e5, _⟩ := DataW.trod_bool Tryz.underlying4 q5
    simp only [List.cons.injEq, and_true] at e0 e1 e2 e4 e5
    obtain ⟨rfl, rfl, rfl⟩ := e0
    obtain ⟨rfl, rfl⟩ := e4
    subst e1 e2 e3 e5
    have hs2 : s.size ≤ 2097152 := by
      rw [hy2] at hb
      simp only [Rows.uptoBulk, Array.length_toList] at hb
      have e : s.size = s.data.size := rfl
      omega
    exact ⟨(⟨a0, b0, k0, p, s, l, ta, tb, on⟩, (ra, rm, rc)), ⟨rng_of_rw hr, hm, hs2⟩, rfl⟩
theorem open_ops {H : Type} {enc : TypeId × Value → H} {W : World} {fuel : Nat} {c : Value} {y : DataW H × List MemPlace} (h : DataW.trod enc Tryz.prog W 0 (fun _ => true) true fuel 23 [c] = some y) (hb : Rows.uptoBulk y.1 ≤ 1048576) : ∃ a n cap l, c = .slice a n cap ∧ Rw opF 9 W a n cap l ∧ n ≤ 1048576 ∧ ∀ x ∈ l, OpOk W x :=
  open_row layO Tryz.underlying23 cellsOp9 (P := OpOk W) h hb (fun _ _ _ hx hb => open_op hx hb)
theorem open_xop {H : Type} {enc : TypeId × Value → H} {W : World} {fuel : Nat} {cs : List Value} {x : DataW H × List MemPlace}
    (h : DataW.trod enc Tryz.prog W 0 (fun _ => true) true fuel 46 cs = some x) (hb : Rows.uptoBulk x.1 ≤ 1048576) : ∃ y : XOp, XOk W y ∧ cs = xopF y := by
  obtain ⟨xs, f, _, hx, hl, hlen, hel⟩ := DataW.trod_struct Tryz.underlying46 h
  rw [cellsXop] at hl
  match cs, hl, xs, hlen, hx, hel with
  | [c0, c1, c2, c3, c4, c5, c6, c7, c8, c9, c10, c11, c12, c13, c14, c15, c16, c17, c18, c19, c20, c21, c22, c23], _, [y0, y1, y2, y3, y4, y5, y6, y7], _, hx, hel =>
    have q0 : DataW.trod enc Tryz.prog W 0 (fun _ => true) true f 3 [c0] = some y0 := by simpa [cellsI64] using hel 0 _ rfl
    have q1 : DataW.trod enc Tryz.prog W 0 (fun _ => true) true f 34 [c1, c2, c3, c4, c5, c6, c7, c8, c9] = some y1 := by simpa [cellsOp9] using hel 1 _ rfl
    have q2 : DataW.trod enc Tryz.prog W 0 (fun _ => true) true f 34 [c10, c11, c12, c13, c14, c15, c16, c17, c18] = some y2 := by simpa [cellsOp9] using hel 2 _ rfl
    have q3 : DataW.trod enc Tryz.prog W 0 (fun _ => true) true f 23 [c19] = some y3 := by simpa [cellsOps] using hel 3 _ rfl
    have q4 : DataW.trod enc Tryz.prog W 0 (fun _ => true) true f 23 [c20] = some y4 := by simpa [cellsOps] using hel 4 _ rfl
    have q5 : DataW.trod enc Tryz.prog W 0 (fun _ => true) true f 4 [c21] = some y5 := by simpa [cellsBool] using hel 5 _ rfl
    have q6 : DataW.trod enc Tryz.prog W 0 (fun _ => true) true f 3 [c22] = some y6 := by simpa [cellsI64] using hel 6 _ rfl
    have q7 : DataW.trod enc Tryz.prog W 0 (fun _ => true) true f 3 [c23] = some y7 := by simpa [cellsI64] using hel 7 _ rfl
    have hd : x.1 = .agg [y0.1, y1.1, y2.1, y3.1, y4.1, y5.1, y6.1, y7.1] := by
      have := congrArg Prod.fst hx
      simpa using this
    rw [hd] at hb
    simp only [Rows.uptoBulk, Rows.uptoBulkAll] at hb
    obtain ⟨k, e0, _, _⟩ := DataW.trod_int Tryz.underlying3 q0
    obtain ⟨⟨o1, a1, m1, p1⟩, ok1, e1⟩ := open_op q1 (by omega)
    obtain ⟨⟨o2, a2, m2, p2⟩, ok2, e2⟩ := open_op q2 (by omega)
    obtain ⟨ra, rm, rc, R, e3, hr, hrm, hR⟩ := open_ops q3 (by omega)
    obtain ⟨sa, sm, sc, S, e4, hs, hsm, hS⟩ := open_ops q4 (by omega)
    obtain ⟨e, e5, _⟩ := DataW.trod_bool Tryz.underlying4 q5
    obtain ⟨n, e6, _, _⟩ := DataW.trod_int Tryz.underlying3 q6
    obtain ⟨m, e7, _, _⟩ := DataW.trod_int Tryz.underlying3 q7
    refine ⟨⟨k, o1, a1, m1, p1, o2, a2, m2, p2, ra, rm, rc, R, sa, sm, sc, S, e, n, m⟩, ⟨ok1, ok2, hr, hR, hs, hS, hrm, hsm⟩, ?_⟩
    have e : [c0, c1, c2, c3, c4, c5, c6, c7, c8, c9, c10, c11, c12, c13, c14, c15, c16, c17, c18, c19, c20, c21, c22, c23] = [c0] ++ [c1, c2, c3, c4, c5, c6, c7, c8, c9] ++ [c10, c11, c12, c13, c14, c15, c16, c17, c18] ++ [c19] ++ [c20] ++ [c21] ++ [c22] ++ [c23] := rfl
    rw [e, e0, e1, e2, e3, e4, e5, e6, e7]
    rfl
theorem open_scr {H : Type} {enc : TypeId × Value → H} {W : World} {base : Nat} {v : Value} {d : DataW H} {p : List MemPlace}
    (hv : Value.okWide Tryz.prog W .any base 22 v) (h : DataW.Trod enc Tryz.prog W 0 (fun _ => true) true 22 v d p) (hb : Rows.uptoBulk d ≤ 1048576) :
    ∃ (a : Option Addr) (n cap : Nat) (L : List XOp), v = .slice a n cap ∧ Rw xopF 24 W a n cap L ∧ ∀ x ∈ L, XOk W x := by
  obtain ⟨a0, n0, c0, rfl⟩ := okWide_slice Tryz.underlying22 hv
  obtain ⟨fuel, hf⟩ := h
  obtain ⟨a, n, cap, L, e, h1, _, h3⟩ := open_row (P := XOk W) layXo Tryz.underlying22 cellsXop hf hb (fun _ _ _ hx hb => open_xop hx hb)
  exact ⟨a, n, cap, L, e, h1, h3⟩
end Go.Proofs.YtmdnmhdimfglaaaGreatDoor
