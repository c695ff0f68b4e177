import Derived.Test.YtokclnjaglklhaaDoorRsWB
import Derived.OrdersHeld
import Derived.Deep.RegionHeld3
import Derived.Test.YtokclnjaglklhaaDoorRxD
import Derived.Test.YtokclnjaglklhaaDoorRtL
import Derived.Test.YtokclnjaglklhaaDoorRvB
import Derived.Sort.QuietTacIn
/-! A region that draws its order, in a round of a loop over an iterator, by a condition that is held. -/
namespace Go.Proofs.YtokclnjaglklhaaDoor
open Go.RowKit Go.Lib Go.Shelf Go.Sort
set_option maxRecDepth 100000
section
variable {n : Nat} {P : Program} {md : Region.Mode} {ops : Array Oper} {Q : Exit → Act → World → Prop}
theorem rowsIn_wide {row : String} {args : Array Value} {w : World} {R : Value → World → Prop} (h : Rows P row args w R) : RowsIn Fence.wide n P row args w R := fun c cs _ => by
  obtain ⟨v, w', hr, hs⟩ := h c cs
  exact ⟨v, w', hr, stepsIn_wide.2 hs⟩
theorem wp_wide {o : Oper} (hp : plainOp o = true) {K : Act → World → Prop} {a : Act} {w : World} (h : o.wp P a w K Q) : o.wpIn Fence.wide n P a w K Q := by
  refine ⟨fun _ _ => trivial, ?_⟩
  rw [Oper.semAt_eq _ _ _ (plainOp_ne hp)]
  unfold Oper.wp at h
  generalize (execOp a.eval o).run P w = r at h
  cases r with
  | ok x w' =>
    cases x with
    | value v => exact h
    | skip => exact h
    | defer d => exact h
    | enter f args => exact ⟨fun hd => by simp [Fence.wide] at hd, callsIn_wide.2 h⟩
    | row r args => exact ⟨fun hd => by simp [Fence.wide] at hd, rowsIn_wide h⟩
    | _ => exact False.elim h
  | halt hh w' =>
    cases hh <;> exact h
theorem wpAny_wide (hno : ¬ LetsOut Q) (hp : ∀ (i : Nat) o, ops[i]? = some o → plainOp o = true) : ∀ (fuel : Nat) (listed : Array Bool) (a : Act) (w : World),
    wpAny P md ops Q fuel listed a w → wpAnyIn Fence.wide n P md ops Q fuel listed a w
  | 0, _, _, _, h => h
  | fuel + 1, listed, a, w, h => by
    refine ⟨h.1, fun i hi => ?_⟩
    have h1 := h.2 i hi
    unfold wpOp at h1
    unfold wpOpIn
    cases e : ops[i]? with
    | none => rw [e] at h1; exact wpAny_wide hno hp fuel _ _ _ h1
    | some o =>
      rw [e] at h1
      simp only at h1 ⊢
      split
      · rename_i hw
        rw [if_pos hw] at h1
        rcases h1 with h1 | h1
        · exact Oper.wpIn_mono (fun a' w' h' => wpAny_wide hno hp fuel _ a' w' h') (wp_wide (hp i o e) h1)
        · exact absurd h1.2 hno
      · rename_i hw
        rw [if_neg hw] at h1
        exact ⟨fun _ _ => trivial, wpAny_wide hno hp fuel _ _ _ h1⟩
theorem region_round_held {S : World → Prop} {id l : Nat} {a : Act} {w : World} {os : List Oper} (hp : os.all plainOp = true) (hm : P.follows .mixedOrders = true) (hno : ¬ LetsOut Q) (hS : S w.drew)
    (h : S w.drew → wpAnyH P .any os.toArray Q S os.toArray.size (Array.replicate os.toArray.size false) a w.drew) : (Code.region id os.toArray true).wpIn (Fence.wide.inRound l) n P Q a w :=
  region_round hp hm (wpAny_wide hno (fun i o ho => by
    refine List.all_eq_true.1 hp o ?_
    rw [List.getElem?_toArray] at ho
    exact List.mem_of_getElem? ho) _ _ _ _ (wpAny_of_held _ _ _ _ (h hS)))
theorem notOut {K : Act → World → Prop} : ¬ LetsOut (Exit.then K (fun _ _ _ => False)) := fun ⟨_, _, h⟩ => h
end
end Go.Proofs.YtokclnjaglklhaaDoor

/-! Cells: its sequence later on, whatever has been done to the rope. -/
namespace Go.Proofs.YtokclnjaglklhaaDoor
open Go.RowKit Go.Lib
set_option maxRecDepth 100000
theorem cell_same {A B : World} {p : Addr} (h : B.heap[p.block]? = A.heap[p.block]?) : B.cell? p = A.cell? p := by
  unfold World.cell?
  rw [h]
/-- What was laid between two worlds stands in a third, and all trees do. -/
def Laid (w w' W : World) : Prop := KpT w' W ∧ ∀ k, w.heap.size ≤ k → k < w'.heap.size → W.heap[k]? = w'.heap[k]?
set_option maxHeartbeats 1000000 in
theorem pieces_later {w : World} {q : Nat} {t : Tr} (h : RopeAt w q t) (hR : t.Rp) (hO : Okl t.lv) (lo hi : Int) :
    Calls Tryd.prog 15 #[.pointer (some ⟨q, 0, none⟩), .int .i64 lo, .int .i64 hi] w fun e w' => ∃ lb, e = .returned (.func (.func 35) #[] lb) ∧ Below w.heap.size w w' ∧
      ∀ W, Laid w w' W → ∀ n, SeqV Fence.wide n Tryd.prog 35 lb Pc.encs KpT Pc.V (fun xs => xs.map Pc.dat = gv t.lv 0 lo hi) (fun xs => xs.map Pc.dat <+: gv t.lv 0 lo hi) W := by
  obtain ⟨g, hc, hA⟩ := h.cell
  have hql := h.lt
  have hn := hR.len
  have HR : Hid t.Rp := hR
  have HA : Hid (At w t g) := hA
  have HO : Hid (Okl t.lv) := hO
  clear h hR hA hO
  go_enter Tryd.func15, Tryd.ntmps15
  go_wp2_with fail
  go_ret
  generalize hX : ((w.alloc (.cells #[.int .i64 lo] 3)).alloc (.cells #[.int .i64 hi] 3)).alloc (.cells #[.pointer (some ⟨g, 0, none⟩)] 53) = X
  have hb : Below w.heap.size w X := by rw [← hX]; exact (((Below.refl _ w).alloc (Nat.le_refl _) _).alloc (by simp) _).alloc (by simp; omega) _
  have hsz : X.heap.size = w.heap.size + 3 := by rw [← hX]; simp
  have c1 : X.cell? ⟨w.heap.size + 1 + 1, 0, none⟩ = some (.pointer (some ⟨g, 0, none⟩)) := by rw [← hX]; exact cell_at _ _ _ _ (by simp [World.size_alloc])
  have c2 : X.cell? ⟨w.heap.size, 0, none⟩ = some (.int .i64 lo) := by rw [← hX]; exact (cell_old _ _ _ (by simp [World.size_alloc]; omega)).trans ((cell_old _ _ _ (by simp [World.size_alloc])).trans (cell_new _ _ _))
  have c3 : X.cell? ⟨w.heap.size + 1, 0, none⟩ = some (.int .i64 hi) := by rw [← hX]; exact (cell_old _ _ _ (by simp [World.size_alloc])).trans (cell_at _ _ _ _ (by simp [World.size_alloc]))
  refine ⟨_, rfl, hb, fun W hL n => ?_⟩
  have hs := hL.1.size
  exact pieces1_seq n (g := g) ((HA.out.below hb).kpT hL.1) HR.out.can HR.out.pcs HO.out (by omega) ((cell_same (hL.2 _ (by simp only; omega) (by simp only; omega))).trans c1) ((cell_same (hL.2 _ (by simp only; omega) (by simp only; omega))).trans c2) ((cell_same (hL.2 _ (by simp only; omega) (by simp only; omega))).trans c3) (by omega) (by omega) (by omega)
set_option maxHeartbeats 1000000 in
theorem ropeCells_later {w : World} {q : Nat} {t : Tr} (h : RopeAt w q t) (hR : t.Rp) (hO : Okl t.lv) (lo : Nat) :
    Calls Tryd.prog 8 #[.pointer (some ⟨q, 0, none⟩), .int .i64 (lo : Int)] w fun e w' => ∃ b0, e = .returned (.func (.func 17) #[] #[.pointer (some ⟨b0, 0, none⟩)]) ∧ Below w.heap.size w w' ∧
      ∀ W, Laid w w' W → ∀ n, 4 ≤ n → SeqW Fence.wide n Tryd.prog 17 #[.pointer (some ⟨b0, 0, none⟩)] clE KpA (fun _ _ => True) (fun xs => xs = enF (lo : Int) (t.row.drop lo)) (fun pre => pre <+: enF (lo : Int) (t.row.drop lo)) W := by
  have HT : Hid (∀ W, Below w.heap.size w W → Calls Tryd.prog 16 #[.pointer (some ⟨q, 0, none⟩)] W fun e w' => e = .returned (.int .i64 (t.row.length : Int)) ∧ w' = W) := fun W hW => ropeTotal_any (h.below hW)
  have HP : Hid (Calls Tryd.prog 15 #[.pointer (some ⟨q, 0, none⟩), .int .i64 (lo : Int), .int .i64 (t.row.length : Int)] w fun e w' => ∃ lb, e = .returned (.func (.func 35) #[] lb) ∧ Below w.heap.size w w' ∧
      ∀ W, Laid w w' W → ∀ n, SeqV Fence.wide n Tryd.prog 35 lb Pc.encs KpT Pc.V (fun xs => xs.map Pc.dat = gv t.lv 0 (lo : Int) (t.row.length : Int)) (fun xs => xs.map Pc.dat <+: gv t.lv 0 (lo : Int) (t.row.length : Int)) W) := pieces_later h hR hO (lo : Int) (t.row.length : Int)
  have HG : Hid (clG (gv t.lv 0 (lo : Int) (t.row.length : Int)) = enF (lo : Int) (t.row.drop lo)) := by
    show _ = _
    rw [clG_gv t.lv lo _ (by rw [← Tr.row_lv]; exact Int.le_refl _), ← Tr.row_lv]
  have HL : Hid ((rowOf t.lv).length ≤ 2097152) := by show _ ≤ _; rw [← Tr.row_lv]; have := hR.len; omega
  clear h hR hO
  go_enter Tryd.func8, Tryd.ntmps8
  go_wp2_with fail
  refine (HT.out _ (Below.refl _ _)).mono ?_
  rintro e w1 ⟨rfl, rfl⟩
  go_wp2_with fail
  refine HP.out.mono ?_
  rintro e w2 ⟨lb, rfl, hb2, hseq⟩
  have HSQ : Hid (∀ W, Laid w1 w2 W → ∀ n, SeqV Fence.wide n Tryd.prog 35 lb Pc.encs KpT Pc.V (fun xs => xs.map Pc.dat = gv t.lv 0 (lo : Int) (t.row.length : Int)) (fun xs => xs.map Pc.dat <+: gv t.lv 0 (lo : Int) (t.row.length : Int)) W) := hseq
  clear hseq
  go_wp2_with fail
  go_ret
  have hb3 : Below w2.heap.size w2 (w2.alloc (.cells #[.func (.func 35) #[] lb] 58)) := (Below.refl _ _).alloc (Nat.le_refl _) _
  have hs2 := hb2.size
  refine ⟨w2.heap.size, rfl, hb2.alloc hb2.size _, fun W hL n hn => ?_⟩
  have hLs := hL.1.size
  rw [World.size_alloc] at hLs
  have := cells1_seq n hn (w := W) HL.out ((cell_same (hL.2 w2.heap.size hs2 (by simp))).trans (cell_new w2 _ _)) (by omega) (fun m => HSQ.out W ⟨(KpT.below hb3).trans hL.1, fun k hk hk2 => (hL.2 k hk (by simp [World.size_alloc]; omega)).trans (hb3.block k hk2)⟩ m)
  rw [HG.out] at this
  exact this
end Go.Proofs.YtokclnjaglklhaaDoor

/-! Boxes beside a rope and its row. -/
namespace Go.Proofs.YtokclnjaglklhaaDoor
open Go.RowKit Go.Lib
set_option maxRecDepth 100000
theorem run_equalIn_func_nil {P : Program} (w : World) (d : Nat) (t : TypeId) (ps rs : Array TypeId) (vr : Bool) (f : Fn) (x y : Array Value) (h : P.underlying t = some (.func ps rs vr)) :
    (Op.equalIn (d + 1) t (.func f x y) .nilFunc).run P w = .ok false w := by
  simp [Op.equalIn, run_underlying h]
theorem run_eql_func_nil {P : Program} (w : World) (t : TypeId) (ps rs : Array TypeId) (vr : Bool) (f : Fn) (x y : Array Value) (h : P.underlying t = some (.func ps rs vr)) :
    (binOp .eql t (.func f x y) .nilFunc).run P w = .ok (.bool false) w := by
  simp only [binOp]
  simp [Op.equal, Op.maxDepth, run_equalIn_func_nil w 9999 t ps rs vr f x y h]
/-- A piece of code that can't fail. -/
theorem wpIn_calm {F : Fence} {n : Nat} {P : Program} {s : Code} {K : Act → World → Prop} {Q' : Exit → Act → World → Prop} {a : Act} {w : World} (h : s.wpIn F n P (Exit.then K (fun _ _ _ => False)) a w) : s.wpIn F n P (Exit.then K Q') a w := by
  refine wpIn_mono h ?_
  intro e a' w' hq
  cases e with
  | normal => exact hq
  | exit id => exact False.elim hq
  | goto l => exact False.elim hq
  | ret => exact False.elim hq
  | panic ch => exact False.elim hq
  | outgrown => exact False.elim hq
theorem heap_set1 {W : World} {b : Nat} {v : Value} {T : TypeId} (h : W.heap[b]? = some (.cells #[v] T)) (u : Value) : (W.setCell ⟨b, 0, none⟩ u).heap[b]? = some (.cells #[u] T) := by
  unfold World.setCell
  simp [Array.getElem?_modify, h]
theorem heap_set_ne {W : World} {b k : Nat} (u : Value) (h : k ≠ b) : (W.setCell ⟨b, 0, none⟩ u).heap[k]? = W.heap[k]? := Below.heap_setCell _ _ _ _ (by simp only; exact h)
theorem KpT.set {W : World} {b : Nat} {v : Value} {T : TypeId} (h : W.heap[b]? = some (.cells #[v] T)) (u : Value) (h1 : T ≠ 68) (h2 : T ≠ 21) : KpT W (W.setCell ⟨b, 0, none⟩ u) := by
  refine ⟨by simp, fun k cs fr hk => heap_set_ne u ?_, fun k cs fr hk => heap_set_ne u ?_⟩
  · rintro rfl
    rw [h] at hk
    simp only [Option.some.injEq, Obj.cells.injEq] at hk
    exact h1 hk.2.1
  · rintro rfl
    rw [h] at hk
    simp only [Option.some.injEq, Obj.cells.injEq] at hk
    exact h2 hk.2.1
theorem Both.box {w2 : World} {q : Nat} {M : Int} {R : List (Int × Int)} {a : Option Addr} {cap : Nat} {W : World} (h : Both w2 q M R a cap W) {b : Nat} {v : Value} {T : TypeId} (hb : W.heap[b]? = some (.cells #[v] T)) (u : Value) (h0 : T ≠ 56) (h1 : T ≠ 68) (h2 : T ≠ 21) (hw : w2.heap.size ≤ b) : Both w2 q M R a cap (W.setCell ⟨b, 0, none⟩ u) := by
  obtain ⟨t, ⟨g, k1, k2⟩, k3, k4, k5⟩ := h.rope
  refine ⟨⟨t, ⟨g, (heap_set_ne u ?_).trans k1, k2.kpT (KpT.set hb u h1 h2)⟩, k3, k4, k5.trans ((Below.refl _ _).setCell hw _)⟩, ⟨h.row.len, h.row.room, fun hn => ?_⟩, h.ok, h.cnt⟩
  · rintro rfl
    rw [hb] at k1
    simp only [Option.some.injEq, Obj.cells.injEq] at k1
    exact h0 k1.2.1
  · obtain ⟨g', off, e, hg, hc⟩ := h.row.cells hn
    have hne : g' ≠ b := by
      rintro rfl
      have hl : 0 < R.length := hn
      have hx : R[0]? = some R[0] := List.getElem?_eq_getElem hl
      have c1 := hc 0 _ hx 1 _ rfl
      simp only [World.cell?, hb] at c1
      have : (#[v] : Array Value)[off + 0 * 2 + 1]? = none := by simp
      rw [this] at c1
      cases c1
    refine ⟨g', off, e, by simpa using hg, fun j x hj i y hy => ?_⟩
    rw [cell_same (A := W) (p := ⟨g', off + j * 2 + i, none⟩) (heap_set_ne u hne)]
    exact hc j x hj i y hy
theorem Laid.box {w w' W : World} (h : Laid w w' W) {b : Nat} {v : Value} {T : TypeId} (hb : W.heap[b]? = some (.cells #[v] T)) (u : Value) (h1 : T ≠ 68) (h2 : T ≠ 21) (hn : b < w.heap.size ∨ w'.heap.size ≤ b) : Laid w w' (W.setCell ⟨b, 0, none⟩ u) :=
  ⟨h.1.trans (KpT.set hb u h1 h2), fun k hk hk2 => (heap_set_ne u (by omega)).trans (h.2 k hk hk2)⟩
theorem Laid.upd {w w' W W' : World} {q : Nat} {t : Tr} (h : Laid w w' W) (hR : RopeAt W q t) (hu : Upd q W W') (hq : q < w.heap.size) : Laid w w' W' :=
  ⟨h.1.trans (KpT.upd hR hu), fun k hk hk2 => (hu.block k (by have := h.1.size; omega) (by omega)).trans (h.2 k hk hk2)⟩
theorem Laid.below {w w' W W' : World} (h : Laid w w' W) (hb : Below W.heap.size W W') : Laid w w' W' :=
  ⟨h.1.trans (KpT.below hb), fun k hk hk2 => (hb.block k (by have := h.1.size; omega)).trans (h.2 k hk hk2)⟩
/-- Where RopeSequence stands: its boxes, the rope, its row. -/
structure SQ (w2 w6 w7 : World) (E2 bQ bN bK q : Nat) (vR : Value) (fr : Int) (W : World) (M : Int) (R : List (Int × Int)) (a : Option Addr) (c : Nat) : Prop where
  both : Both w2 q M R a c W
  bR : W.heap[E2]? = some (.cells #[vR] 26)
  bF : W.heap[E2 + 1]? = some (.cells #[.int .i64 fr] 3)
  bq : W.heap[bQ]? = some (.cells #[.pointer (some ⟨q, 0, none⟩)] 29)
  bn : W.heap[bN]? = some (.cells #[.slice a R.length c] 26)
  bk : W.heap[bK]? = some (.cells #[.bool true] 4)
  laid : Laid w6 w7 W
/-- How its blocks lie. -/
structure SQo (w2 w6 w7 : World) (E2 bQ bN bK q : Nat) : Prop where
  e2 : w2.heap.size = E2
  qlo : E2 + 2 ≤ q
  qhi : q < bQ
  s6 : w6.heap.size = bQ + 1
  n7 : w7.heap.size ≤ bN
  k7 : bN < bK
  s67 : w6.heap.size ≤ w7.heap.size
section
variable {w2 w6 w7 : World} {E2 bQ bN bK q : Nat} {vR : Value} {fr : Int} {W W' : World} {M : Int} {R : List (Int × Int)} {a : Option Addr} {c : Nat}
theorem SQ.below (h : SQ w2 w6 w7 E2 bQ bN bK q vR fr W M R a c) (hb : Below W.heap.size W W') : SQ w2 w6 w7 E2 bQ bN bK q vR fr W' M R a c :=
  have f : ∀ {k : Nat} {o : Obj}, W.heap[k]? = some o → W'.heap[k]? = some o := fun hk => (hb.block _ (Array.getElem?_eq_some_iff.1 hk).1).trans hk
  ⟨h.both.still hb, f h.bR, f h.bF, f h.bq, f h.bn, f h.bk, h.laid.below hb⟩
/-- acts, and what it answers is stored. -/
theorem SQ.acts (h : SQ w2 w6 w7 E2 bQ bN bK q vR fr W M R a c) (ho : SQo w2 w6 w7 E2 bQ bN bK q) {M' : Int} {R' : List (Int × Int)} {a' : Option Addr} {c' : Nat} (hB : Both w2 q M' R' a' c' W') (hu : Upd q W W') :
    W'.heap[bN]? = some (.cells #[.slice a R.length c] 26) ∧ (W'.setCell ⟨bN, 0, none⟩ (.slice a' R'.length c')).heap[bK]? = some (.cells #[.bool true] 4) ∧
      SQ w2 w6 w7 E2 bQ bN bK q vR fr ((W'.setCell ⟨bN, 0, none⟩ (.slice a' R'.length c')).setCell ⟨bK, 0, none⟩ (.bool true)) M' R' a' c' := by
  obtain ⟨o1, o2, o3, o4, o5, o6, o7⟩ := ho
  obtain ⟨t, k1, _⟩ := h.both.rope
  have f : ∀ {k : Nat} {o : Obj}, W.heap[k]? = some o → k ≠ q → W'.heap[k]? = some o := fun hk hne => (hu.block _ (Array.getElem?_eq_some_iff.1 hk).1 hne).trans hk
  have n1 := f h.bn (by omega)
  have n2 := f h.bk (by omega)
  have n3 : (W'.setCell ⟨bN, 0, none⟩ (.slice a' R'.length c')).heap[bK]? = some (.cells #[.bool true] 4) := (heap_set_ne _ (by omega)).trans n2
  have l1 := h.laid.upd k1 hu (by omega)
  have B1 := hB.box n1 (.slice a' R'.length c') (by decide) (by decide) (by decide) (by omega)
  have L1 := l1.box n1 (.slice a' R'.length c') (by decide) (by decide) (.inr o5)
  refine ⟨n1, n3, B1.box n3 (.bool true) (by decide) (by decide) (by decide) (by omega), ?_, ?_, ?_, ?_, heap_set1 n3 _, L1.box n3 (.bool true) (by decide) (by decide) (.inr (by omega))⟩
  · exact (heap_set_ne _ (by omega)).trans ((heap_set_ne _ (by omega)).trans (f h.bR (by omega)))
  · exact (heap_set_ne _ (by omega)).trans ((heap_set_ne _ (by omega)).trans (f h.bF (by omega)))
  · exact (heap_set_ne _ (by omega)).trans ((heap_set_ne _ (by omega)).trans (f h.bq (by omega)))
  · exact (heap_set_ne _ (by omega)).trans (heap_set1 n1 _)
end
end Go.Proofs.YtokclnjaglklhaaDoor

/-! A loop over an iterator whose round begins by laying a box. -/
namespace Go.Proofs.YtokclnjaglklhaaDoor
open Go.RowKit Go.Lib
set_option maxRecDepth 100000
section
variable {F : Fence} {n : Nat} {P : Program}
/-- One round, out of its body's walk. -/
theorem round_wa {α : Type} {fn : FuncId} {tmps : Array Value} {ps : Array Tmp} {assign body : Code} {D : Nat} (hfn : F.fn fn) {Kp : World → World → Prop} {I : List α → World → Prop} {Ix : Code → List α → World → Prop} (hI : OwnFrom D I) (hIx : ∀ c, OwnFrom D (Ix c))
    {V : α → World → Prop} (hV : ∀ x, OwnFrom D (fun (_ : Unit) W => V x W)) (hKt : ∀ {A B C : World}, Kp A B → Kp B C → Kp A C) (hKb : ∀ (W : World) (o o' : Obj), W.heap[D + 1]? = some o → o.isCells = false → Kp W (W.putObj (D + 1) o'))
    {encs : α → Array Value} (hps : ∀ x, (encs x).size = ps.size) {m k : Nat} (hd : F.depth = none) (a₁ : α → World → Act) (al : α → World → World) (hal : ∀ x W, Below W.heap.size W (al x W)) (Bx : α → World → World → Prop) (hBx : ∀ x W, Bx x W (al x W)) (hBo : ∀ x W0 W (l : Nat) (o o' : Obj), Bx x W0 W → W.heap[l]? = some o → o.isCells = false → Bx x W0 (W.putObj l o')) (hKa : ∀ x W, Kp W (al x W))
    (hassign : ∀ (l : Nat) (x : α) (W : World) (K : Act → World → Prop), K (a₁ x W) (al x W) → assign.wpIn (F.inRound l) k P (Exit.then K (fun _ _ _ => False)) { tmps := (ps.zip (encs x)).foldl (fun t (p, v) => t.setIfInBounds p v) tmps, defers := [] } W)
    {Sp : List α → Prop} (hbody : ∀ (l : Nat) (pre : List α) (x : α) (W0 W : World), I pre W → V x W → Bx x W0 W → Sp (pre ++ [x]) → body.wpIn (F.inRound l) k P (ownPostG D Kp I Ix (pre ++ [x]) W) (a₁ x W0) W)
    (pre : List α) (x : α) (W : World) (hi : I pre W) (hv : V x W) (hsp : Sp (pre ++ [x])) (hl : W.heap[D + 1]? = some (.loop (recOf fn tmps ps assign body D .ready none))) (hk : W.heap[D]? = some (.deferred (some []))) :
    YieldAt F m P (D + 1) (encs x) W fun e W' => KeepsFrom (D + 2) W W' ∧ ((e = .returned (.bool true) ∧ (I (pre ++ [x]) W' ∧ W'.heap[D + 1]? = some (.loop (recOf fn tmps ps assign body D .ready none)) ∧ W'.heap[D]? = some (.deferred (some []))) ∧ Kp W W') ∨
      (e = .returned (.bool false) ∧ ∃ c, Ix c (pre ++ [x]) W' ∧ W'.heap[D + 1]? = some (.loop (recOf fn tmps ps assign body D .done (some c))) ∧ W'.heap[D]? = some (.deferred (some [])))) := by
  have hlt : D + 1 < W.heap.size := (Array.getElem?_eq_some_iff.1 hl).1
  have hla : (al x W).heap[D + 1]? = some (.loop (recOf fn tmps ps assign body D .ready none)) := ((hal x W).block _ hlt).trans hl
  have hka : (al x W).heap[D]? = some (.deferred (some [])) := ((hal x W).block _ (by omega)).trans hk
  have hlta : D + 1 < (al x W).heap.size := (Array.getElem?_eq_some_iff.1 hla).1
  have hKF : KeepsFrom (D + 2) W (al x W) := ⟨(hal x W).size, fun k o _ ho _ => ((hal x W).block k (Array.getElem?_eq_some_iff.1 ho).1).trans ho⟩
  have any : ∀ {mm m' : Nat} {f : FuncId} {t : Array Value} {asg bd : Code} {R : Ending → World → Prop}, RoundIn F mm P (D + 1) f t asg bd W R → RoundIn F m' P (D + 1) f t asg bd W R := fun h => ⟨h.1, fun c cs _ => h.2 c cs (fun d e => by rw [hd] at e; cases e)⟩
  refine ⟨fn, _, assign, body, run_yield (P := P) (args := encs x) hl (hps x), any (roundIn_of_wpIn (n := k) hfn (hassign _ x W _ ⟨_, run_beginRound hla rfl, ?_⟩))⟩
  generalize hbz : (al x W).putObj (D + 1) (.loop { recOf fn tmps ps assign body D .ready none with state := .busy }) = Wz
  have z1 : Wz.heap[D + 1]? = some (.loop { recOf fn tmps ps assign body D .ready none with state := .busy }) := by rw [← hbz]; exact World.putObj_heap_same hlta
  have z2 : Wz.heap[D]? = some (.deferred (some [])) := by rw [← hbz]; exact (World.putObj_heap_other (by omega)).trans hka
  have z6 : KeepsFrom (D + 2) W Wz := by rw [← hbz]; exact hKF.trans (keepsFrom_put (by omega))
  have z3 : Kp W Wz := by rw [← hbz]; exact hKt (hKa x W) (hKb _ _ _ hla rfl)
  have z4 : I pre Wz := by rw [← hbz]; exact hI.putObj _ (ownBelow hI hi (hal x W)) (by omega) hla rfl
  have z5 : V x Wz := by rw [← hbz]; exact (hV x).putObj (s := ()) _ (ownBelow (hV x) (s := ()) hv (hal x W)) (by omega) hla rfl
  have z7 : Bx x W Wz := by rw [← hbz]; exact hBo x W _ _ _ _ (hBx x W) hla rfl
  refine wpIn_mono (hbody (D + 1) pre x W Wz z4 z5 z7 hsp) ?_
  -- the round's end, whichever way the body was left
  have leave : ∀ (j : Option Code) (W3 : World), KeepsFrom D Wz W3 → ∃ v W4, (Instr.endRound (D + 1) j).run P W3 = .ok v W4 ∧ v = .bool j.isNone ∧ W3.heap[D + 1]? = some (.loop { recOf fn tmps ps assign body D .ready none with state := .busy }) ∧
      W4 = W3.putObj (D + 1) (.loop (recOf fn tmps ps assign body D (if j.isNone then .ready else .done) j)) ∧ W4.heap[D + 1]? = some (.loop (recOf fn tmps ps assign body D (if j.isNone then .ready else .done) j)) ∧ W4.heap[D]? = some (.deferred (some [])) := fun j W3 hkf => by
    have y1 := hkf.same _ _ (by omega) z1 rfl
    have y2 := hkf.same _ _ (Nat.le_refl _) z2 rfl
    exact ⟨_, _, run_endRound (P := P) j y1, rfl, y1, rfl, World.putObj_heap_same (Array.getElem?_eq_some_iff.1 y1).1, (World.putObj_heap_other (by omega)).trans y2⟩
  intro e a3 W3 hp
  cases e with
  | normal =>
    obtain ⟨v, W4, r1, rfl, r2, rfl, r3, r4⟩ := leave none W3 hp.1
    exact ⟨_, _, r1, z6.trans ((keepsFrom_up hp.1 (by omega)).trans (keepsFrom_put (by omega))), .inl ⟨rfl, ⟨hI.putObj _ hp.2.2 (by omega) r2 rfl, r3, r4⟩, hKt z3 (hKt hp.2.1 (hKb _ _ _ r2 rfl))⟩⟩
  | ret =>
    obtain ⟨v, W4, r1, rfl, r2, rfl, r3, r4⟩ := leave (some .ret) W3 hp.1
    exact ⟨_, _, r1, z6.trans ((keepsFrom_up hp.1 (by omega)).trans (keepsFrom_put (by omega))), .inr ⟨rfl, _, (hIx _).putObj _ hp.2 (by omega) r2 rfl, r3, r4⟩⟩
  | exit id =>
    obtain ⟨v, W4, r1, rfl, r2, rfl, r3, r4⟩ := leave (some (.exit id)) W3 hp.1
    exact ⟨_, _, r1, z6.trans ((keepsFrom_up hp.1 (by omega)).trans (keepsFrom_put (by omega))), .inr ⟨rfl, _, (hIx _).putObj _ hp.2 (by omega) r2 rfl, r3, r4⟩⟩
  | goto t =>
    obtain ⟨v, W4, r1, rfl, r2, rfl, r3, r4⟩ := leave (some (.goto t)) W3 hp.1
    exact ⟨_, _, r1, z6.trans ((keepsFrom_up hp.1 (by omega)).trans (keepsFrom_put (by omega))), .inr ⟨rfl, _, (hIx _).putObj _ hp.2 (by omega) r2 rfl, r3, r4⟩⟩
  | panic ch => exact hp.elim
  | outgrown => exact hp.elim
/-- The loop. -/
theorem rangeWa {α : Type} {g : Operand} {ps : Array Tmp} {assign body : Code} {Q : Exit → Act → World → Prop} {a : Act} {w : World}
    (hro : F.round = none) (hd : F.depth = none) (h1 : 1 ≤ n) {gf : Nat} {lb : Array Value} (hg : a.eval g = .func (.func gf) #[] lb) (hFg : F.fn gf) (eg : ∀ args w, (callFunc gf args).run P w = .ok (.enter gf args) w)
    {encs : α → Array Value} {Kp : Nat → World → World → Prop} {V : α → World → Prop} {S Sp : List α → Prop} {w0 : World} (hseq : SeqW F (n - 1) P gf lb encs Kp V S Sp w0)
    (hKt : ∀ {B : Nat} {X Y Z : World}, Kp B X Y → Kp B Y Z → Kp B X Z) (hKb : ∀ (B l : Nat) (W : World) (o o' : Obj), l < B → W.heap[l]? = some o → o.isCells = false → Kp B W (W.putObj l o')) (hb0 : Below w0.heap.size w0 w) (hps : ∀ x, (encs x).size = ps.size)
    (I : List α → World → Prop) (Ix : Code → List α → World → Prop) (hI : OwnFrom w.heap.size I) (hIx : ∀ c, OwnFrom w.heap.size (Ix c)) (hV : ∀ x, OwnFrom w.heap.size (fun (_ : Unit) W => V x W)) (h0 : I [] w) (a₁ : α → World → Act) (al : α → World → World) (hal : ∀ x W, Below W.heap.size W (al x W)) (Bx : α → World → World → Prop) (hBx : ∀ x W, Bx x W (al x W)) (hBo : ∀ x W0 W (l : Nat) (o o' : Obj), Bx x W0 W → W.heap[l]? = some o → o.isCells = false → Bx x W0 (W.putObj l o')) (hKa : ∀ B x W, Kp B W (al x W))
    (hassign : ∀ (l : Nat) (x : α) (W : World) (K : Act → World → Prop), K (a₁ x W) (al x W) → assign.wpIn (F.inRound l) (n - 1 - 1) P (Exit.then K (fun _ _ _ => False)) { tmps := (ps.zip (encs x)).foldl (fun t (p, v) => t.setIfInBounds p v) a.tmps, defers := [] } W)
    (hbody : ∀ (l : Nat) (pre : List α) (x : α) (W0 W : World), I pre W → V x W → Bx x W0 W → Sp (pre ++ [x]) → body.wpIn (F.inRound l) (n - 1 - 1) P (ownPostG w.heap.size (Kp (w.heap.size + 2)) I Ix (pre ++ [x]) W) (a₁ x W0) W)
    (hdone : ∀ (D : Nat) (xs : List α) (W : World), w.heap.size ≤ D → S xs → I xs W → W.heap[D]? = some (.deferred (some [])) → Q .normal { a with defers := { target := .collected D, args := #[] } :: a.defers } W)
    (hstop : ∀ (D : Nat) (c : Code) (pre : List α) (W : World), w.heap.size ≤ D → Sp pre → Ix c pre W → W.heap[D]? = some (.deferred (some [])) → c.wpIn F n P Q { a with defers := { target := .collected D, args := #[] } :: a.defers } W) :
    (Code.rangeFunc g ps assign body).wpIn F n P Q a w := by
  refine wpIn_rangeFunc fun fn hfn => ?_
  rw [hro]
  generalize hW1 : (w.alloc (.deferred (some []))).alloc (.loop (recOf fn a.tmps ps assign body w.heap.size .ready none)) = W1
  have e1 : W1.heap[w.heap.size + 1]? = some (.loop (recOf fn a.tmps ps assign body w.heap.size .ready none)) := by
    rw [← hW1]
    have := World.alloc_heap_new (w.alloc (.deferred (some []))) (.loop (recOf fn a.tmps ps assign body w.heap.size .ready none))
    rwa [World.size_alloc] at this
  have e2 : W1.heap[w.heap.size]? = some (.deferred (some [])) := by
    rw [← hW1]; exact (Below.heap_alloc _ _ _ (by simp)).trans (World.alloc_heap_new w _)
  have eS : W1.heap.size = w.heap.size + 2 := by rw [← hW1]; simp [World.size_alloc]
  have e3 : Below w.heap.size w W1 := by rw [← hW1]; exact ((Below.refl _ w).alloc (Nat.le_refl _) _).alloc (by simp) _
  refine ⟨w.heap.size + 1, [{ target := .collected w.heap.size, args := #[] }], W1, { target := .fn (.func gf) lb, args := #[.func (.yield (w.heap.size + 1)) #[] #[]] }, W1, gf, #[.func (.yield (w.heap.size + 1)) #[] #[]] ++ lb, W1, ?_, ?_, ?_, ?_, fun _ => h1, ?_⟩
  · rw [← hW1]; exact run_enterLoop_outer _ _ _ _ _
  · simp only [resolve, hg]
    simp [go_sem]
  · intro f' hf'; simp [Target.leads] at hf'; subst hf'; exact hFg
  · simp [invoke, go_sem, eg]
  · refine (hseq (w.heap.size + 1)
      (fun pre W => I pre W ∧ W.heap[w.heap.size + 1]? = some (.loop (recOf fn a.tmps ps assign body w.heap.size .ready none)) ∧ W.heap[w.heap.size]? = some (.deferred (some [])))
      (fun pre W => ∃ c, Ix c pre W ∧ W.heap[w.heap.size + 1]? = some (.loop (recOf fn a.tmps ps assign body w.heap.size .done (some c))) ∧ W.heap[w.heap.size]? = some (.deferred (some [])))
      W1 (hb0.trans (e3.mono hb0.size))
      (fun s A B row hs hg hr => ⟨hI s A B row hs.1 hg (fun r e => ⟨by have := (hr r e).1; omega, (hr r e).2⟩), (hg.block _ (Array.getElem?_eq_some_iff.1 hs.2.1).1 (fun e => by have := (hr _ e.symm).1; omega)).trans hs.2.1, (hg.block _ (Array.getElem?_eq_some_iff.1 hs.2.2).1 (fun e => by have := (hr _ e.symm).1; omega)).trans hs.2.2⟩)
      (fun s A B row ⟨c, hs⟩ hg hr => ⟨c, hIx c s A B row hs.1 hg (fun r e => ⟨by have := (hr r e).1; omega, (hr r e).2⟩), (hg.block _ (Array.getElem?_eq_some_iff.1 hs.2.1).1 (fun e => by have := (hr _ e.symm).1; omega)).trans hs.2.1, (hg.block _ (Array.getElem?_eq_some_iff.1 hs.2.2).1 (fun e => by have := (hr _ e.symm).1; omega)).trans hs.2.2⟩)
      (fun m pre x W hJ hv hsp => by rw [eS]; exact round_wa (Kp := Kp (w.heap.size + 2)) hfn hI hIx hV hKt (fun W o o' => hKb _ _ W o o' (by omega)) hps hd a₁ al hal Bx hBx hBo (hKa _) hassign hbody pre x W hJ.1 hv hsp hJ.2.1 hJ.2.2) ⟨ownBelow hI h0 e3, e1, e2⟩).mono ?_
    rintro e W2 ⟨⟨v, rfl⟩, (⟨xs, hS, hi, hl, hk⟩ | ⟨pre, hSp, c, hi, hl, hk⟩)⟩
    · exact ⟨none, _, run_endLoop (P := P) hl (by simp [recOf]), hdone _ xs _ (Nat.le_refl _) hS (hI.putObj _ hi (by omega) hl rfl) ((World.putObj_heap_other (by omega)).trans hk)⟩
    · exact ⟨some c, _, run_endLoop (P := P) hl (by simp [recOf]), hstop _ c pre _ (Nat.le_refl _) hSp ((hIx c).putObj _ hi (by omega) hl rfl) ((World.putObj_heap_other (by omega)).trans hk)⟩
end
end Go.Proofs.YtokclnjaglklhaaDoor

/-! RopeSequence's state where a block that is no cells turns; its other boxes. -/
namespace Go.Proofs.YtokclnjaglklhaaDoor
open Go.RowKit Go.Lib
set_option maxRecDepth 100000
/-- What grows and turns no cells. -/
structure Trn (B : Nat) (W W' : World) : Prop where
  os : W'.os = W.os
  tape : W'.tape = W.tape
  output : W'.output = W.output
  size : W.heap.size ≤ W'.heap.size
  cells : ∀ (k : Nat) (cs : Array Value) (T : TypeId) fr, W.heap[k]? = some (.cells cs T fr) → W'.heap[k]? = W.heap[k]?
  low : ∀ k, k < B → k < W.heap.size → W'.heap[k]? = W.heap[k]?
theorem trn_of {B : Nat} {W W' : World} {row : Option Nat} (hg : W.grownBy W' row) (hr : ∀ r, row = some r → B ≤ r ∧ ∃ o : Obj, W.heap[r]? = some o ∧ o.isCells = false) : Trn B W W' :=
  ⟨hg.os, hg.tape, hg.output, hg.size, fun k cs T fr hk => hg.block k (Array.getElem?_eq_some_iff.1 hk).1 (fun e => by
    obtain ⟨_, o, h1, h2⟩ := hr k e.symm
    rw [hk] at h1
    cases h1
    simp [Obj.isCells] at h2), fun k hk hl => hg.block k hl (fun e => by have := (hr k e.symm).1; omega)⟩
theorem Trn.kpT {B : Nat} {W W' : World} (h : Trn B W W') : KpT W W' := ⟨h.size, fun k cs fr hk => h.cells k cs _ fr hk, fun k cs fr hk => h.cells k cs _ fr hk⟩
theorem Both.trn {w2 : World} {q : Nat} {M : Int} {R : List (Int × Int)} {a : Option Addr} {cap : Nat} {W W' : World} {B : Nat} (h : Both w2 q M R a cap W) (ht : Trn B W W') (hB : w2.heap.size ≤ B) : Both w2 q M R a cap W' := by
  obtain ⟨t, ⟨g, k1, k2⟩, k3, k4, k5⟩ := h.rope
  refine ⟨⟨t, ⟨g, (ht.cells _ _ _ _ k1).trans k1, k2.kpT ht.kpT⟩, k3, k4, k5.trans ⟨ht.os, ht.tape, ht.output, ht.size, fun k hk => ht.low k (by omega) (by have := k5.size; omega)⟩⟩, ⟨h.row.len, h.row.room, fun hn => ?_⟩, h.ok, h.cnt⟩
  obtain ⟨g', off, e, hg, hc⟩ := h.row.cells hn
  have hbl : W'.heap[g']? = W.heap[g']? := by
    have hl : 0 < R.length := hn
    have hx : R[0]? = some R[0] := List.getElem?_eq_getElem hl
    have c1 := hc 0 _ hx 0 _ rfl
    cases hq : W.heap[g']? with
    | none => simp [World.cell?, hq] at c1
    | some o =>
      cases o with
      | cells cs T fr => rw [← hq]; exact ht.cells g' cs T fr hq
      | _ => simp [World.cell?, hq] at c1
  refine ⟨g', off, e, by have := ht.size; omega, fun j x hj i y hy => ?_⟩
  rw [cell_same (A := W) (p := ⟨g', off + j * 2 + i, none⟩) hbl]
  exact hc j x hj i y hy
section
variable {w2 w6 w7 : World} {E2 bQ bN bK q : Nat} {vR : Value} {fr : Int} {W W' : World} {M : Int} {R : List (Int × Int)} {a : Option Addr} {c : Nat}
theorem SQ.trn {B : Nat} (h : SQ w2 w6 w7 E2 bQ bN bK q vR fr W M R a c) (ht : Trn B W W') (hB : w7.heap.size ≤ B) (hB2 : w2.heap.size ≤ B) : SQ w2 w6 w7 E2 bQ bN bK q vR fr W' M R a c :=
  have f : ∀ {k : Nat} {cs : Array Value} {T : TypeId}, W.heap[k]? = some (.cells cs T) → W'.heap[k]? = some (.cells cs T) := fun hk => (ht.cells _ _ _ _ hk).trans hk
  ⟨h.both.trn ht hB2, f h.bR, f h.bF, f h.bq, f h.bn, f h.bk, ⟨h.laid.1.trans ht.kpT, fun k hk hk2 => (ht.low k (by omega) (by have := h.laid.1.size; omega)).trans (h.laid.2 k hk hk2)⟩⟩
/-- A box of another kind is written. -/
theorem SQ.box (h : SQ w2 w6 w7 E2 bQ bN bK q vR fr W M R a c) (ho : SQo w2 w6 w7 E2 bQ bN bK q) {b : Nat} {v : Value} (hb : W.heap[b]? = some (.cells #[v] 3)) (hbk : bK < b) (u : Value) : SQ w2 w6 w7 E2 bQ bN bK q vR fr (W.setCell ⟨b, 0, none⟩ u) M R a c := by
  obtain ⟨o1, o2, o3, o4, o5, o6, o7⟩ := ho
  exact ⟨h.both.box hb u (by decide) (by decide) (by decide) (by omega), (heap_set_ne _ (by omega)).trans h.bR, (heap_set_ne _ (by omega)).trans h.bF, (heap_set_ne _ (by omega)).trans h.bq, (heap_set_ne _ (by omega)).trans h.bn, (heap_set_ne _ (by omega)).trans h.bk, h.laid.box hb u (by decide) (by decide) (.inr (by omega))⟩
end
/-- The other boxes: the answer, stop, pass; the marks of loops that have ended. -/
structure EX (rb bS bp : Nat) (st p : Int) (rs : List Nat) (W : World) : Prop where
  res : W.heap[rb]? = some (.cells #[.bool false] 4)
  stop : W.heap[bS]? = some (.cells #[.int .i64 st] 3)
  pass : W.heap[bp]? = some (.cells #[.int .i64 p] 3)
  mks : ∀ r ∈ rs, W.heap[r]? = some (.deferred (some []))
  lo : ∀ r ∈ rs, rb < r
section
variable {rb bS bp : Nat} {st p : Int} {rs : List Nat} {W W' : World}
theorem EX.same (h : EX rb bS bp st p rs W) (hs : ∀ k, k = rb ∨ k = bS ∨ k = bp ∨ k ∈ rs → k < W.heap.size → W'.heap[k]? = W.heap[k]?) : EX rb bS bp st p rs W' := by
  have f : ∀ {k : Nat} {o : Obj}, W.heap[k]? = some o → (k = rb ∨ k = bS ∨ k = bp ∨ k ∈ rs) → W'.heap[k]? = some o := fun hk hm => (hs _ hm (Array.getElem?_eq_some_iff.1 hk).1).trans hk
  exact ⟨f h.res (.inl rfl), f h.stop (.inr (.inl rfl)), f h.pass (.inr (.inr (.inl rfl))), fun r hr => f (h.mks r hr) (.inr (.inr (.inr hr))), h.lo⟩
theorem EX.below (h : EX rb bS bp st p rs W) (hb : Below W.heap.size W W') : EX rb bS bp st p rs W' := h.same fun k _ hk => hb.block k hk
theorem EX.trn {B : Nat} (h : EX rb bS bp st p rs W) (ht : Trn B W W') (hB : ∀ r ∈ rs, r < B) : EX rb bS bp st p rs W' :=
  ⟨(ht.cells _ _ _ _ h.res).trans h.res, (ht.cells _ _ _ _ h.stop).trans h.stop, (ht.cells _ _ _ _ h.pass).trans h.pass, fun r hr => (ht.low r (hB r hr) (Array.getElem?_eq_some_iff.1 (h.mks r hr)).1).trans (h.mks r hr), h.lo⟩
end
end Go.Proofs.YtokclnjaglklhaaDoor

/-! What RopeSequence's loops hold to. -/
namespace Go.Proofs.YtokclnjaglklhaaDoor
open Go.RowKit Go.Lib
set_option maxRecDepth 100000
theorem results_cells1 {fn : Func} {p : Tmp} {s : TypeId} (h : fn.results = #[.cell p s]) (tmps : Array Value) (P : Program) (w : World) :
    (results fn tmps).run P w = ((asAddr (tmps.getD p undef)).run P w).andThen fun a w₁ => (loadVar s a).run P w₁ := by
  simp only [results, h]
  simp [Sem.run_bind, Result.andThen]
/-- The mark that a loop over an iterator leaves. -/
def mark (r : Nat) : Deferred := { target := .collected r, args := #[] }
/-- A function that holds loops over iterators leaves. -/
theorem leave_marks {F : Fence} {n : Nat} {P : Program} {fn : Func} {tmps : Array Value} {R : Ending → World → Prop} : ∀ (rs : List Nat) (W : World), rs.Nodup → (∀ r ∈ rs, W.heap[r]? = some (.deferred (some []))) →
    (∀ W', Below 0 W W' → (∀ k, k ∉ rs → W'.heap[k]? = W.heap[k]?) → ∃ v, (results fn tmps).run P W' = .ok v W' ∧ R (.returned v) W') → LeavesInM F n P fn tmps R (rs.map mark) .returning W
  | [], W, _, _, h => h W (Below.refl _ _) (fun _ _ => rfl)
  | r :: rs, W, hd, hm, h => by
    have h0 := hm r (by simp)
    rw [List.nodup_cons] at hd
    refine ⟨by simp, .inl ⟨r, _, rfl, run_takeDeferred h0, ?_⟩⟩
    have hb0 : Below 0 W (W.putObj r (.deferred none)) := ⟨rfl, rfl, rfl, by simp [World.putObj], fun k hk => absurd hk (Nat.not_lt_zero _)⟩
    have hne : ∀ k, k ≠ r → (W.putObj r (.deferred none)).heap[k]? = W.heap[k]? := fun k hk => World.putObj_heap_other (by omega)
    exact leave_marks rs _ hd.2 (fun x hx => (hne x (fun e => hd.1 (e ▸ hx))).trans (hm x (by simp [hx]))) (fun W' hb hC' => h W' (hb0.trans hb) (fun k hk => (hC' k (fun e => hk (by simp [e]))).trans (hne k (fun e => hk (by simp [e])))))
theorem arrU (t : Array Value) (h : t.size = 138) : ∃ u : Nat → Value, t = #[u 0, u 1, u 2, u 3, u 4, u 5, u 6, u 7, u 8, u 9, u 10, u 11, u 12, u 13, u 14, u 15, u 16, u 17, u 18, u 19, u 20, u 21, u 22, u 23, u 24, u 25, u 26, u 27, u 28, u 29, u 30, u 31, u 32, u 33, u 34, u 35, u 36, u 37, u 38, u 39, u 40, u 41, u 42, u 43, u 44, u 45, u 46, u 47, u 48, u 49, u 50, u 51, u 52, u 53, u 54, u 55, u 56, u 57, u 58, u 59, u 60, u 61, u 62, u 63, u 64, u 65, u 66, u 67, u 68, u 69, u 70, u 71, u 72, u 73, u 74, u 75, u 76, u 77, u 78, u 79, u 80, u 81, u 82, u 83, u 84, u 85, u 86, u 87, u 88, u 89, u 90, u 91, u 92, u 93, u 94, u 95, u 96, u 97, u 98, u 99, u 100, u 101, u 102, u 103, u 104, u 105, u 106, u 107, u 108, u 109, u 110, u 111, u 112, u 113, u 114, u 115, u 116, u 117, u 118, u 119, u 120, u 121, u 122, u 123, u 124, u 125, u 126, u 127, u 128, u 129, u 130, u 131, u 132, u 133, u 134, u 135, u 136, u 137] := by
  refine ⟨fun n => t.getD n undef, ?_⟩
  have h1 : t = ((List.range 138).map (fun n => t.getD n undef)).toArray := by
    apply Array.ext
    · simp [h]
    · intro i h1 h2
      simp [h1]
  exact h1
/-- In a pass: behind the cells pre. -/
def BI (w2 w6 w7 : World) (E2 bQ bN bK q : Nat) (vR : Value) (fr : Int) (rb bS bp bX : Nat) (st p : Int) (rs : List Nat) (M0 : Int) (n1 : Nat) (pre : List (Int × Int × Int)) (W : World) : Prop :=
  ∃ M R1 a3 c3, SQ w2 w6 w7 E2 bQ bN bK q vR fr W M R1 a3 c3 ∧ 1 ≤ M ∧ M ≤ M0 + (pre.length : Int) ∧ R1.length = n1 ∧ EX rb bS bp st p rs W ∧ W.heap[bX]? = some (.cells #[.int .i64 (fr + (pre.length : Int))] 3)
def BO (w2 w6 w7 : World) (E2 bQ bN bK q : Nat) (vR : Value) (fr : Int) (rb bS bp bX : Nat) (st p : Int) (rs : List Nat) (M0 : Int) (n1 : Nat) (c : Code) (_ : List (Int × Int × Int)) (W : World) : Prop :=
  c = .exit 4 ∧ p = 0 ∧ ∃ M R1 a3 c3 v, SQ w2 w6 w7 E2 bQ bN bK q vR fr W M R1 a3 c3 ∧ 1 ≤ M ∧ M ≤ M0 + 1152 ∧ R1.length = n1 ∧ EX rb bS bp st p rs W ∧ W.heap[bX]? = some (.cells #[.int .i64 v] 3)
section
variable {w2 w6 w7 : World} {E2 bQ bN bK q : Nat} {vR : Value} {fr : Int} {rb bS bp bX : Nat} {st p : Int} {rs : List Nat} {M0 : Int} {n1 B : Nat}
theorem bi_own (h7 : w7.heap.size ≤ B) (h2 : w2.heap.size ≤ B) (hr : ∀ r ∈ rs, r < B) : OwnFrom B (BI w2 w6 w7 E2 bQ bN bK q vR fr rb bS bp bX st p rs M0 n1) := fun s W W' row ⟨M, R1, a3, c3, k1, k2, k3, k4, k5, k6⟩ hg hrow => by
  have ht := trn_of hg hrow
  exact ⟨M, R1, a3, c3, k1.trn ht h7 h2, k2, k3, k4, k5.trn ht hr, (ht.cells _ _ _ _ k6).trans k6⟩
theorem bo_own (h7 : w7.heap.size ≤ B) (h2 : w2.heap.size ≤ B) (hr : ∀ r ∈ rs, r < B) (c : Code) : OwnFrom B (BO w2 w6 w7 E2 bQ bN bK q vR fr rb bS bp bX st p rs M0 n1 c) := fun s W W' row ⟨e1, e2, M, R1, a3, c3, v, k1, k2, k3, k4, k5, k6⟩ hg hrow => by
  have ht := trn_of hg hrow
  exact ⟨e1, e2, M, R1, a3, c3, v, k1.trn ht h7 h2, k2, k3, k4, k5.trn ht hr, (ht.cells _ _ _ _ k6).trans k6⟩
end
end Go.Proofs.YtokclnjaglklhaaDoor

/-! A round of RopeSequence's loop: what it reads, what it leaves. -/
namespace Go.Proofs.YtokclnjaglklhaaDoor
open Go.RowKit Go.Lib Go.Shelf Go.Sort
set_option maxRecDepth 100000
theorem region_round_quiet {n : Nat} {P : Program} {Q : Exit → Act → World → Prop} {id l : Nat} {a : Act} {w : World} {os : List Oper} (hp : os.all plainOp = true) (hm : P.follows .mixedOrders = true) (hB : Region.lexB .any os.toArray = true)
    (h : wpQuietIn Fence.wide n P os.toArray (fun w' => ∃ n, w' = w.drewN n) (fun a' => ∀ w', (∃ n, w' = w.drewN n) → Q .normal a' w') os a) : (Code.region id os.toArray true).wpIn (Fence.wide.inRound l) n P Q a w := by
  simp only [Region.lexB, Bool.and_eq_true] at hB
  refine region_round (F := Fence.wide) hp hm (wpAnyIn_of_quiet (C := fun w' => ∃ n, w' = w.drewN n) (Q := fun a' => ∀ w', (∃ n, w' = w.drewN n) → Q .normal a' w') rfl (fun _ w' hw' h => h w' hw') _ _ _ _ ⟨1, rfl⟩ ?_)
  have := wpAnyQIn_lex (F := Fence.wide) (n := n) (C := fun w' => ∃ n, w' = w.drewN n) (md := .any) hB.1 os 0 (Array.replicate os.toArray.size false) a (by simp) (by simpa using hB.2) h
  simpa using this
theorem KpA.set {B : Nat} {W : World} {b : Nat} {v : Value} {T : TypeId} (h : W.heap[b]? = some (.cells #[v] T)) (u : Value) (h1 : T ≠ 68) (h2 : T ≠ 21) (hb : b < B) : KpA B W (W.setCell ⟨b, 0, none⟩ u) :=
  ⟨KpT.set h u h1 h2, fun k hk _ => heap_set_ne u (by omega)⟩
theorem KpA.upd {B : Nat} {W W' : World} {q : Nat} {t : Tr} (h : RopeAt W q t) (hu : Upd q W W') (hq : q < B) : KpA B W W' :=
  ⟨KpT.upd h hu, fun k hk hl => hu.block k hl (by omega)⟩
/-- The cell that comes, by what came before. -/
theorem enF_next {fr : Nat} {R : List (Int × Int)} {pre : List (Int × Int × Int)} {x : Int × Int × Int} (h : pre ++ [x] <+: enF (fr : Int) (R.drop fr)) : fr + pre.length < R.length ∧ x.1 = ((fr + pre.length : Nat) : Int) ∧ R[fr + pre.length]? = some (x.2.1, x.2.2) := by
  obtain ⟨t, ht⟩ := h
  have h1 : (enF (fr : Int) (R.drop fr))[pre.length]? = some x := by rw [← ht]; simp
  rw [enF_get, List.getElem?_drop] at h1
  cases e : R[fr + pre.length]? with
  | none => rw [e] at h1; simp at h1
  | some c =>
    rw [e] at h1
    simp only [Option.map_some, Option.some.injEq] at h1
    subst h1
    exact ⟨(List.getElem?_eq_some_iff.1 e).1, by omega, rfl⟩
theorem enF_pre {fr : Nat} {R : List (Int × Int)} {pre : List (Int × Int × Int)} (h : pre <+: enF (fr : Int) (R.drop fr)) : pre.length ≤ R.length - fr := by
  have := h.length_le
  rw [enF_len, List.length_drop] at this
  exact this
theorem actR_one {R : List (Int × Int)} (A B N : Int) : (actR R 1 A B N).length = R.length := by
  unfold actR
  rw [if_neg (by decide)]
  exact bmp_len R 0
/-- What a round reads. -/
structure RB (a2 : Option Addr) (nR c2 E2 bS bp bX bC : Nat) (fr st p nx : Int) (c1 c2' : Int) (g off : Nat) (W : World) : Prop where
  ea : a2 = some ⟨g, off, none⟩
  cp : W.cell? ⟨bp, 0, none⟩ = some (.int .i64 p)
  cX : W.cell? ⟨bX, 0, none⟩ = some (.int .i64 nx)
  cF : W.cell? ⟨E2 + 1, 0, none⟩ = some (.int .i64 fr)
  cS : W.cell? ⟨bS, 0, none⟩ = some (.int .i64 st)
  cR : W.cell? ⟨E2, 0, none⟩ = some (.slice a2 nR c2)
  cB0 : W.cell? ⟨bC, 0, none⟩ = some (.int .i32 c1)
  cB1 : W.cell? ⟨bC, 1, none⟩ = some (.int .i64 c2')
  cr0 : W.cell? ⟨g, off + nx.toNat * 2, none⟩ = some (.int .i32 c1)
  cr1 : W.cell? ⟨g, off + nx.toNat * 2 + 1, none⟩ = some (.int .i64 c2')
section
variable {w2 w6 w7 : World} {E2 bQ bN bK q : Nat} {fr : Nat} {rb bS bp bX : Nat} {st p : Int} {rs : List Nat} {M0 : Int} {n1 nR c2 : Nat} {a2 : Option Addr} {R : List (Int × Int)}
theorem bi_reads {pre : List (Int × Int × Int)} {x : Int × Int × Int} {W W0 : World} (h : BI w2 w6 w7 E2 bQ bN bK q (.slice a2 nR c2) (fr : Int) rb bS bp bX st p rs M0 n1 pre W) (hR : Rw cellV 2 w2 a2 nR c2 R) (hx : pre ++ [x] <+: enF (fr : Int) (R.drop fr))
    (hB : W.heap[W0.heap.size]? = some (.cells #[.int .i32 x.2.1, .int .i64 x.2.2] 41)) : ∃ g off, RB a2 nR c2 E2 bS bp bX W0.heap.size (fr : Int) st p ((fr : Int) + (pre.length : Int)) x.2.1 x.2.2 g off W := by
  obtain ⟨M, R1, a3, c3, k1, k2, k3, k4, k5, k6⟩ := h
  obtain ⟨h1, h2, h3⟩ := enF_next hx
  have hR2 := hR.below k1.both.rope.below
  obtain ⟨g, off, e, hg, hc⟩ := hR2.cells (by have := hR.len; omega)
  have hcc := hc _ _ h3
  have et : ((fr : Int) + (pre.length : Int)).toNat = fr + pre.length := by omega
  refine ⟨g, off, e, ?_, ?_, ?_, ?_, ?_, ?_, ?_, ?_, ?_⟩
  · rw [Lib.cell_of_heap k5.pass]; rfl
  · rw [Lib.cell_of_heap k6]; rfl
  · rw [Lib.cell_of_heap k1.bF]; rfl
  · rw [Lib.cell_of_heap k5.stop]; rfl
  · rw [Lib.cell_of_heap k1.bR]; rfl
  · rw [Lib.cell_of_heap hB]; rfl
  · rw [Lib.cell_of_heap hB]; rfl
  · rw [et]; exact hcc 0 _ rfl
  · rw [et]; exact hcc 1 _ rfl

theorem bi_step {B k : Nat} {pre : List (Int × Int × Int)} {W : World} {vR : Value} (h : BI w2 w6 w7 E2 bQ bN bK q vR (fr : Int) rb bS bp bX st p rs M0 n1 pre W) (ho : SQo w2 w6 w7 E2 bQ bN bK q) (h1 : bK < bX) (h2 : bS < bX) (h3 : bp < bX) (h4 : ∀ r ∈ rs, r < bX) (h5 : rb < bX) (hB : bX < B) (v : Int) :
    ∃ M R1 a3 c3, SQ w2 w6 w7 E2 bQ bN bK q vR (fr : Int) ((W.drewN k).setCell ⟨bX, 0, none⟩ (.int .i64 v)) M R1 a3 c3 ∧ 1 ≤ M ∧ M ≤ M0 + (pre.length : Int) ∧ R1.length = n1 ∧ EX rb bS bp st p rs ((W.drewN k).setCell ⟨bX, 0, none⟩ (.int .i64 v)) ∧
      ((W.drewN k).setCell ⟨bX, 0, none⟩ (.int .i64 v)).heap[bX]? = some (.cells #[.int .i64 v] 3) ∧ KpA B W ((W.drewN k).setCell ⟨bX, 0, none⟩ (.int .i64 v)) := by
  obtain ⟨M, R1, a3, c3, k1, k2, k3, k4, k5, k6⟩ := h
  have hb : Below W.heap.size W (W.drewN k) := ⟨rfl, rfl, rfl, Nat.le_refl _, fun _ _ => rfl⟩
  have hx : (W.drewN k).heap[bX]? = some (.cells #[.int .i64 ((fr : Int) + (pre.length : Int))] 3) := k6
  refine ⟨M, R1, a3, c3, (k1.below hb).box ho hx h1 _, k2, k3, k4, (k5.below hb).same fun j hj _ => heap_set_ne _ ?_, heap_set1 hx _, (KpA.below hb).trans (KpA.set hx _ (by decide) (by decide) hB)⟩
  rcases hj with rfl | rfl | rfl | hj
  · omega
  · omega
  · omega
  · have := h4 j hj; omega
theorem bi_act {B : Nat} {W W' : World} {vR : Value} {M : Int} {R1 : List (Int × Int)} {a3 : Option Addr} {c3 : Nat} {v : Int} (h : SQ w2 w6 w7 E2 bQ bN bK q vR (fr : Int) W M R1 a3 c3) (he : EX rb bS bp st p rs W) (hx : W.heap[bX]? = some (.cells #[.int .i64 v] 3)) (ho : SQo w2 w6 w7 E2 bQ bN bK q) (h1 : bK < bX) (h2 : bK < bS) (h3 : bS < bp) (h5 : rb < E2) (hB : bX < B)
    {M' : Int} {R' : List (Int × Int)} {a' : Option Addr} {c' : Nat} (hb : Both w2 q M' R' a' c' W') (hu : Upd q W W') :
    SQ w2 w6 w7 E2 bQ bN bK q vR (fr : Int) ((W'.setCell ⟨bN, 0, none⟩ (.slice a' R'.length c')).setCell ⟨bK, 0, none⟩ (.bool true)) M' R' a' c' ∧ EX rb bS bp st p rs ((W'.setCell ⟨bN, 0, none⟩ (.slice a' R'.length c')).setCell ⟨bK, 0, none⟩ (.bool true)) ∧
      ((W'.setCell ⟨bN, 0, none⟩ (.slice a' R'.length c')).setCell ⟨bK, 0, none⟩ (.bool true)).heap[bX]? = some (.cells #[.int .i64 v] 3) ∧ KpA B W ((W'.setCell ⟨bN, 0, none⟩ (.slice a' R'.length c')).setCell ⟨bK, 0, none⟩ (.bool true)) := by
  obtain ⟨m1, m2, m3⟩ := h.acts ho hb hu
  obtain ⟨t, kr, _⟩ := h.both.rope
  obtain ⟨o1, o2, o3, o4, o5, o6, o7⟩ := ho
  have same : ∀ {j : Nat} {o : Obj}, W.heap[j]? = some o → j ≠ q → j ≠ bN → j ≠ bK → ((W'.setCell ⟨bN, 0, none⟩ (.slice a' R'.length c')).setCell ⟨bK, 0, none⟩ (.bool true)).heap[j]? = some o := fun hj e1 e2 e3 =>
    (heap_set_ne _ e3).trans ((heap_set_ne _ e2).trans ((hu.block _ (Array.getElem?_eq_some_iff.1 hj).1 e1).trans hj))
  obtain ⟨g, kq, _⟩ := id kr
  refine ⟨m3, ⟨same he.res (by omega) (by omega) (by omega), same he.stop (by omega) (by omega) (by omega), same he.pass (by omega) (by omega) (by omega), fun r hr => ?_, he.lo⟩, same hx (by omega) (by omega) (by omega), (KpA.upd kr hu (by omega)).trans ((KpA.set m1 _ (by decide) (by decide) (by omega)).trans (KpA.set m2 _ (by decide) (by decide) (by omega)))⟩
  have hm := he.mks r hr
  refine same hm ?_ ?_ ?_
  · rintro rfl; rw [kq] at hm; cases hm
  · rintro rfl; rw [h.bn] at hm; cases hm
  · rintro rfl; rw [h.bk] at hm; cases hm

theorem bi_end {D ln nx : Nat} {pre : List (Int × Int × Int)} {x : Int × Int × Int} {W W' : World} {vR : Value} {M : Int} {R1 : List (Int × Int)} {a3 : Option Addr} {c3 : Nat} (h : SQ w2 w6 w7 E2 bQ bN bK q vR (fr : Int) W' M R1 a3 c3) (hM1 : 1 ≤ M) (hM : M ≤ M0 + (ln : Int) + 1) (hl : R1.length = n1) (he : EX rb bS bp st p rs W') (hx : W'.heap[bX]? = some (.cells #[.int .i64 ((nx : Int) + 1)] 3)) (hk : KpA D W W') (hln : pre.length = ln ∧ fr + ln = nx) (Ix : Code → List (Int × Int × Int) → World → Prop) (a : Act) :
    ownPostG D (KpA (D + 2)) (BI w2 w6 w7 E2 bQ bN bK q vR (fr : Int) rb bS bp bX st p rs M0 n1) Ix (pre ++ [x]) W .normal a W' := by
  have e : ((pre ++ [x]).length : Int) = (ln : Int) + 1 := by simp [hln.1]
  refine ⟨hk.from_, hk.up (by omega), M, R1, a3, c3, h, hM1, by rw [e]; omega, hl, he, ?_⟩
  rw [e, show (fr : Int) + ((ln : Int) + 1) = (nx : Int) + 1 by omega]
  exact hx
theorem bi_out {D ln : Nat} {pre : List (Int × Int × Int)} {x : Int × Int × Int} {W : World} {vR : Value} (h : BI w2 w6 w7 E2 bQ bN bK q vR (fr : Int) rb bS bp bX st 0 rs M0 n1 pre W) (hln : pre.length = ln) (hl : ln ≤ 1152) (Kp : World → World → Prop) (I : List (Int × Int × Int) → World → Prop) (a : Act) :
    ownPostG D Kp I (BO w2 w6 w7 E2 bQ bN bK q vR (fr : Int) rb bS bp bX st 0 rs M0 n1) (pre ++ [x]) W (.exit 4) a W := by
  obtain ⟨M, R1, a3, c3, k1, k2, k3, k4, k5, k6⟩ := h
  exact ⟨⟨Nat.le_refl _, fun _ _ _ h _ => h⟩, rfl, rfl, M, R1, a3, c3, _, k1, k2, by omega, k4, k5, k6⟩

theorem pass_end {D bW pn : Nat} {v : Int} {W : World} {vR : Value} {M : Int} {R2 : List (Int × Int)} {a5 : Option Addr} {c5 : Nat} (k1 : SQ w2 w6 w7 E2 bQ bN bK q vR (fr : Int) W M R2 a5 c5) (k2 : 1 ≤ M) (k3 : M ≤ 26 + 1152 * ((pn : Int) + 1)) (k4 : R2.length = n1) (k5 : EX rb bS bp st p rs W) (hD : W.heap[D]? = some (.deferred (some []))) (hr : ∀ r ∈ rs, r < D) (hn : rs.Nodup) (hrb : rb < D) (hp : pn < 2) (hv : v = (pn : Int) + 1) (hbW : W.heap.size = bW) :
    Hid (∃ (p_1 : Nat) (x : List Nat), { target := .collected D, args := #[] } :: rs.map mark = x.map mark ∧ p_1 ≤ 2 ∧ Hid (∃ M R2, (∃ x x_1, SQ w2 w6 w7 E2 bQ bN bK q vR (fr : Int) (W.alloc (.cells #[.int .i64 v] 3)) M R2 x x_1) ∧ 1 ≤ M ∧ M ≤ 26 + 1152 * (p_1 : Int) ∧ R2.length = n1 ∧ EX rb bS bW st (p_1 : Int) x (W.alloc (.cells #[.int .i64 v] 3)) ∧ x.Nodup ∧ bS < bW)) := by
  have hb : Below W.heap.size W (W.alloc (.cells #[.int .i64 v] 3)) := (Below.refl _ _).alloc (Nat.le_refl _) _
  have h6 := k5.below hb
  have hl := (Array.getElem?_eq_some_iff.1 k5.stop).1
  refine ⟨pn + 1, D :: rs, rfl, by omega, M, R2, ⟨_, _, k1.below hb⟩, k2, by omega, k4, ⟨h6.res, h6.stop, ?_, fun r hr' => ?_, fun r hr' => ?_⟩, List.nodup_cons.2 ⟨fun h => by have := hr _ h; omega, hn⟩, by omega⟩
  · rw [← hbW, hv, show ((pn + 1 : Nat) : Int) = (pn : Int) + 1 by omega]; exact World.alloc_heap_new _ _
  · rcases List.mem_cons.1 hr' with rfl | hr'
    · exact (hb.block _ (Array.getElem?_eq_some_iff.1 hD).1).trans hD
    · exact h6.mks r hr'
  · rcases List.mem_cons.1 hr' with rfl | hr'
    · exact hrb
    · exact k5.lo r hr'
end
end Go.Proofs.YtokclnjaglklhaaDoor
