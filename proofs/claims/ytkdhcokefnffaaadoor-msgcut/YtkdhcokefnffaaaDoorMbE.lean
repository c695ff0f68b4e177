import Derived.Test.YtkdhcokefnffaaaDoorMbD
import Derived.Test.YtkdhcokefnffaaaDoorMaL
/-! Right commands as plain data; readSeq, readCommand. -/
namespace Go.Proofs.YtkdhcokefnffaaaDoor
open Go.RowKit Go.Lib Sp
set_option maxRecDepth 100000

/-- A command that may travel. -/
inductive Cm where
  | ins (c m t : Nat) (S : List Nat)
  | hide (c m : Nat) (l : List (Nat × Nat))
  | stat (c m x y : Nat) (on : Bool)
def intL (l : List (Nat × Nat)) : List (Int × Int) := l.map fun x => ((x.1 : Int), (x.2 : Int))
def onN (b : Bool) : Nat := if b then 1 else 0
def Cm.op : Cm → OpV
  | .ins c m t S => ⟨c, m, 1, t, strB S, [], 0, 0, false⟩
  | .hide c m l => ⟨c, m, 2, 0, ⟨#[]⟩, intL l, 0, 0, false⟩
  | .stat c m x y on => ⟨c, m, 4, 0, ⟨#[]⟩, [], x, y, on⟩
def Cm.enc : Cm → List Nat
  | .ins c m t S => encP 1 ++ (encP c ++ (encP m ++ (encP t ++ (encP S.length ++ S))))
  | .hide c m l => encP 2 ++ (encP c ++ (encP m ++ (encP l.length ++ rngL 0 l)))
  | .stat c m x y on => encP 4 ++ (encP c ++ (encP m ++ (encP x ++ (encP y ++ encP (onN on)))))
def Cm.Ok : Cm → Prop
  | .ins c m t S => (1 ≤ c ∧ c ≤ 8) ∧ (1 ≤ m ∧ m ≤ 1024) ∧ (1 ≤ S.length ∧ S.length ≤ 1024) ∧ (∀ b ∈ S, b < 256) ∧ ∃ r : Int, check (strB S) = (r, 0, 0) ∧ 1 ≤ r ∧ r ≤ 256 ∧ (t : Int) + r ≤ 1048576
  | .hide c m l => (1 ≤ c ∧ c ≤ 8) ∧ (1 ≤ m ∧ m ≤ 1024) ∧ (1 ≤ l.length ∧ l.length ≤ 1000) ∧ RO 0 0 l
  | .stat c m x y _ => (1 ≤ c ∧ c ≤ 8) ∧ (1 ≤ m ∧ m ≤ 1024) ∧ (1 ≤ x ∧ x ≤ 8) ∧ (1 ≤ y ∧ y ≤ 1024) ∧ ¬ ((x : Int) = c ∧ (y : Int) = m)

/-- How the reading of bytes that are cut or go on ends. -/
def Ends (n Q : Nat) (e : Ending) : Prop := n < Q ∧ e = thrown n 102 ∨ Q < n ∧ e = thrown Q 103
theorem command_cut {w : World} {p n cap i : Nat} {a : Option Addr} {bs : List Nat} (h : Rdr w p a n cap bs i) (ha : ∀ g, a = some g → g.block < w.heap.size) {x : Cm} (hA : Agr (bs.drop i) x.enc) (hx : x.Ok) (hw : Bar w) (Q : Nat) (hQ : Q = i + x.enc.length) (hnQ : n ≠ Q) :
    Calls Tryd.prog 25 #[.pointer (some ⟨p, 0, none⟩)] w fun e w' => Ends n Q e ∧ Chg (fun g => g = p) w w' := by
  cases x with
  | ins c m t S =>
    obtain ⟨h1, h2, h3, _, r, h4, h5, h6, h7⟩ := hx
    exact command_ins h ha hA h1 h2 (by omega) h3 r h4 h6 h7 hw Q hQ hnQ
  | hide c m l =>
    obtain ⟨h1, h2, h3, h4⟩ := hx
    exact command_hide h ha hA h1 h2 (by omega) h4 Q hQ hnQ
  | stat c m x y on =>
    obtain ⟨h1, h2, h3, h4, h5⟩ := hx
    exact command_status h ha hA h1 h2 h3 h4 h5 (by cases on <;> decide) Q hQ hnQ

section
variable {w : World} {p n cap i x : Nat} {a : Option Addr} {bs : List Nat}
theorem readRev_yes (h : Rdr w p a n cap bs i) (hA : Agr (bs.drop i) (encP x)) {mb : Nat} {c : Int} {v1 v2 v3 v4 v5 v6 v7 v8 v9 v10 v11 v12 : Value} (hm : w.heap[mb]? = some (.cells #[.int .i64 c, v1, v2, v3, v4, v5, v6, v7, v8, v9, v10, v11, v12] 37)) (hmp : mb ≠ p) (hma : ∀ g, a = some g → g.block ≠ mb) (h1 : firstRevP c ≤ (x : Int)) (h2 : (x : Int) ≤ 8192) (hq : i + (encP x).length ≤ n) :
    Calls Tryd.prog 43 #[.pointer (some ⟨p, 0, none⟩), .pointer (some ⟨mb, 0, none⟩)] w fun e w' => e = .returned (.tuple #[]) ∧ Rdr w' p a n cap bs (i + (encP x).length) ∧ w'.heap[mb]? = some (.cells #[.int .i64 c, v1, .int .i64 x, v3, v4, v5, v6, v7, v8, v9, v10, v11, v12] 37) ∧ Chg (fun g => g = p ∨ g = mb) w w' := by
  have := readRev_any h hm hmp hma
  rw [btw_agr h.row.len h.le (by omega) hA h1 h2, if_pos hq] at this
  exact this
theorem readRev_cut (h : Rdr w p a n cap bs i) (hA : Agr (bs.drop i) (encP x)) {mb : Nat} {c : Int} {v1 v2 v3 v4 v5 v6 v7 v8 v9 v10 v11 v12 : Value} (hm : w.heap[mb]? = some (.cells #[.int .i64 c, v1, v2, v3, v4, v5, v6, v7, v8, v9, v10, v11, v12] 37)) (hmp : mb ≠ p) (hma : ∀ g, a = some g → g.block ≠ mb) (h1 : firstRevP c ≤ (x : Int)) (h2 : (x : Int) ≤ 8192) (hq : n < i + (encP x).length) :
    Calls Tryd.prog 43 #[.pointer (some ⟨p, 0, none⟩), .pointer (some ⟨mb, 0, none⟩)] w fun e w' => e = thrown n 102 ∧ Chg (fun g => g = p ∨ g = mb) w w' := by
  have := readRev_any h hm hmp hma
  rw [btw_agr h.row.len h.le (by omega) hA h1 h2, if_neg (by omega)] at this
  exact this
set_option maxHeartbeats 4000000 in
theorem readSeq_yes (h : Rdr w p a n cap bs i) (hA : Agr (bs.drop i) (encP x)) {mb : Nat} {v0 v1 v2 v3 v4 v5 v6 v7 v8 v9 v10 v11 v12 : Value} (hm : w.heap[mb]? = some (.cells #[v0, v1, v2, v3, v4, v5, v6, v7, v8, v9, v10, v11, v12] 37)) (hmp : mb ≠ p) (hma : ∀ g, a = some g → g.block ≠ mb) (h1 : 1 ≤ x) (h2 : x ≤ 1024) (hq : i + (encP x).length ≤ n) :
    Calls Tryd.prog 45 #[.pointer (some ⟨p, 0, none⟩), .pointer (some ⟨mb, 0, none⟩)] w fun e w' => e = .returned (.tuple #[]) ∧ Rdr w' p a n cap bs (i + (encP x).length) ∧ w'.heap[mb]? = some (.cells #[v0, v1, v2, .int .i64 x, v4, v5, v6, v7, v8, v9, v10, v11, v12] 37) ∧ Chg (fun g => g = p ∨ g = mb) w w' := by
  have HT := between_yes h hA 1 1024 104 (by omega) (by omega) (by omega) hq
  clear h hA
  go_enter Tryd.func45, Tryd.ntmps45
  go_wp2_with fail
  refine HT.mono ?_
  rintro e w2 ⟨rfl, hR, hC⟩
  clear HT
  have hm2 := hC.block hm hmp
  have q2 : w2.cell? ⟨mb, 3, none⟩ = some v3 := by rw [Lib.cell_of_heap hm2]; rfl
  have f2 := Lib.frozen_of_heap hm2 3
  go_wp2_with fail
  go_end0
  have hC2 : Chg (fun g => g = p ∨ g = mb) w (w2.setCell ⟨mb, 3, none⟩ (.int .i64 x)) := (hC.mono (fun _ _ h => .inl h)).trans (Chg.set (D := fun g => g = p ∨ g = mb) (q := mb) 3 w2 _ (.inr rfl))
  refine ⟨rfl, hR.chg (D := fun g => g = mb) (Chg.set (D := fun g => g = mb) (q := mb) 3 w2 _ rfl) (fun e => hmp e.symm) hma, heap_setCell_cells hm2 3 _, hC2⟩
set_option maxHeartbeats 4000000 in
theorem readSeq_cut (h : Rdr w p a n cap bs i) (hA : Agr (bs.drop i) (encP x)) {mb : Nat} (h1 : 1 ≤ x) (h2 : x ≤ 1024) (hq : n < i + (encP x).length) :
    Calls Tryd.prog 45 #[.pointer (some ⟨p, 0, none⟩), .pointer (some ⟨mb, 0, none⟩)] w fun e w' => e = thrown n 102 ∧ Chg (fun g => g = p ∨ g = mb) w w' := by
  have HT := between_cut h hA 1 1024 104 (by omega) (by omega) (by omega) hq
  clear h hA
  go_enter Tryd.func45, Tryd.ntmps45
  go_wp2_with fail
  refine HT.mono ?_
  rintro e w2 ⟨rfl, hC⟩
  clear HT
  unfold thrown
  try dsimp only
  go_wp2_with fail
  exact ⟨rfl, rfl, hC.mono (fun _ _ h => .inl h)⟩
end
set_option maxHeartbeats 4000000 in
theorem readCommand_cut {w : World} {p n cap i : Nat} {a : Option Addr} {bs : List Nat} (h : Rdr w p a n cap bs i) (ha : ∀ g, a = some g → g.block < w.heap.size) {x : Cm} (hA : Agr (bs.drop i) x.enc) (hx : x.Ok) (hw : Bar w) (Q : Nat) (hQ : Q = i + x.enc.length) (hnQ : n ≠ Q) {mb : Nat} :
    Calls Tryd.prog 47 #[.pointer (some ⟨p, 0, none⟩), .pointer (some ⟨mb, 0, none⟩)] w fun e w' => Ends n Q e ∧ Chg (fun g => g = p ∨ g = mb) w w' := by
  obtain ⟨c0, c1⟩ := box2 h.box
  have HT := command_cut h ha hA hx hw Q hQ hnQ
  clear h ha hA hx hw hQ
  go_enter Tryd.func47, Tryd.ntmps47
  go_wp2_with fail
  refine HT.mono ?_
  rintro e w2 ⟨⟨h1, rfl⟩ | ⟨h1, rfl⟩, hC⟩
  · clear HT
    unfold thrown
    try dsimp only
    go_wp2_with fail
    exact ⟨rfl, .inl ⟨h1, rfl⟩, hC.mono (fun _ _ h => .inl h)⟩
  · clear HT
    unfold thrown
    try dsimp only
    go_wp2_with fail
    exact ⟨rfl, .inr ⟨h1, rfl⟩, hC.mono (fun _ _ h => .inl h)⟩
end Go.Proofs.YtkdhcokefnffaaaDoor
