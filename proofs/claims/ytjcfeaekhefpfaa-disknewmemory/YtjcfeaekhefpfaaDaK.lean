import Derived.Test.YtjcfeaekhefpfaaDaJ
/-! Append. -/
namespace Go.Proofs.Ytjcfeaekhefpfaa
open Go.RowKit Go.Lib
set_option maxRecDepth 100000

theorem wp_append_hr {P : Program} {w : World} {o : Oper} {a : Act} {K : Act → World → Prop} {Q : Exit → Act → World → Prop} (s x : Operand) (t : TypeId) (d : Option Nat) (hd : o.dst = d)
    (ho : o.op = .call { callee := .builtin .append, args := #[s, x], argTypes := #[t, t] }) (v u : Value) (hs : a.eval s = v) (hx : a.eval x = u) {v' : Value} {w' : World}
    (hr : (Builtin.append_ #[t, t] o.type #[v, u]).run P w = .ok v' w') (h : K (a.put d v') w') : Oper.wp P o a w K Q := by
  subst hd
  unfold Oper.wp execOp
  simp only [ho, resolve, invoke, builtin, Sem.run_bind, Sem.run_pure, Result.andThen_ok, List.map_toArray, List.map_cons, List.map_nil, hs, hx, hr]
  exact h

/-- 'append(v, u...)', also of nothing; where the new row lies. -/
theorem appendU {α : Type} {f : α → List Value} {k : Nat} {S T : TypeId} {by_ : Nat} (hK : Kind Try.prog S T k by_) (hf : Lay f k) {w : World} {B : Nat} {v : Value} {l : List α} (h : OwnF f k T w B v l) (hB : B ≤ w.heap.size)
    {b : Option Addr} {m capb : Nat} {ys : List α} (hy : Rw f k w b m capb ys) (hs : (l.length + m) * by_ ≤ 140737488355328) (hs2 : l.length + m ≤ 4611686018427387903) (ty : TypeId) :
    ∃ a' cap' w', (Builtin.append_ #[S, S] ty #[v, .slice b m capb]).run Try.prog w = .ok (.slice a' (l.length + m) cap') w' ∧ OwnF f k T w' B (.slice a' (l.length + m) cap') (l ++ ys) ∧ Below B w w' ∧ Keeps w w' v ∧ ∀ g, (Value.slice a' (l.length + m) cap').ownBlock = some g → v.ownBlock = some g ∨ w.heap.size ≤ g := by
  by_cases hm : 0 < m
  · obtain ⟨g, cap', w', hr, ho, hb, hk, hat⟩ := appendF hK hf h hB hy hm hs (by omega) ty
    refine ⟨_, cap', w', hr, ho, hb, hk, fun g' hg => ?_⟩
    simp [Value.ownBlock] at hg
    subst hg
    rcases hat with e | e
    · exact .inl e
    · exact .inr (by omega)
  · obtain rfl : m = 0 := by omega
    obtain rfl : ys = [] := List.eq_nil_of_length_eq_zero hy.len
    obtain ⟨i, z, hi, hz, hsz, hby, _⟩ := hK.info
    obtain ⟨a', cap', rfl⟩ := h.shape
    refine ⟨a', cap', w, ?_, by rw [List.append_nil]; exact h, Below.refl _ _, fun _ _ _ => rfl, fun g hg => .inl (by cases a' with | none => simp [Value.ownBlock] at hg | some q => simpa [Value.ownBlock] using hg)⟩
    rcases h.2 with ⟨e, h0⟩ | ⟨g, cap, cur, e, _, _, hnc, _⟩
    · obtain rfl := List.eq_nil_of_length_eq_zero h0
      simp only [List.length_nil] at e ⊢
      cases e
      cases b <;> simp [Builtin.append_, run_underlying hK.under, sizeOf, typeInfo, hi, Builtin.lenOf, Builtin.firstCells, loadCells, loadCellsFrom]
    · cases e
      cases b <;> simp [Builtin.append_, run_underlying hK.under, sizeOf, typeInfo, hi, Builtin.lenOf, Builtin.firstCells, hnc, storeCells, loadCells, loadCellsFrom]

def enter (nm : List UInt8) (fs : List Fl) : List Fl := if fs.any (fun f => decide (f.nm = nm)) = true then fs else fs ++ [⟨nm, [], 0⟩]
def growF (nm bs : List UInt8) (f : Fl) : Fl := if f.nm = nm then ⟨f.nm, f.bs ++ bs, f.syn⟩ else f
def growP (nm bs : List UInt8) (fs : List Fl) : List Fl := (enter nm fs).map (growF nm bs)
theorem growP_mid {nm bs : List UInt8} {l r : List X} {x x' : X} {fs : List Fl} (he : enter nm fs = (l ++ x :: r).map X.fl) (hx : x.nm = nm) (hl : ∀ y ∈ l, y.nm ≠ nm) (hr : ∀ y ∈ r, y.nm ≠ nm) (hf : x'.fl = ⟨x.nm, x.bs ++ bs, x.syn⟩) : growP nm bs fs = l.map X.fl ++ x'.fl :: r.map X.fl := by
  have hk : ∀ m : List X, (∀ y ∈ m, y.nm ≠ nm) → (m.map X.fl).map (growF nm bs) = m.map X.fl := fun m hm => by
    rw [List.map_map]
    refine List.map_congr_left fun y hy => ?_
    show growF nm bs y.fl = y.fl
    unfold growF
    exact if_neg (hm y hy)
  unfold growP
  rw [he, List.map_append, List.map_append, List.map_cons, List.map_cons, hk l hl, hk r hr, hf]
  congr 2
  unfold growF
  rw [if_pos (show x.fl.nm = nm from hx)]
  rfl
/-- fileOf, in one word. -/
theorem fileOf_any {w : World} {p b ck : Nat} {S : Dk} {xs : List X} (h : DiskAt w p b S xs ck) (nm : List UInt8) (hl : nm.length ≤ 281474976710656) :
    Calls Try.prog 23 #[.pointer (some ⟨p, 0, none⟩), .string ⟨nm.toArray⟩] w fun e w' => ∃ l x r ck', e = .returned (.pointer (some ⟨x.q, 0, none⟩)) ∧ DiskAt w' p b { S with fs := enter nm S.fs } (l ++ x :: r) ck' ∧ x.nm = nm ∧ (∀ y ∈ l, y.nm ≠ nm) ∧ (∀ y ∈ r, y.nm ≠ nm) ∧ Chg (fun g => g = b) w w' ∧ lenX (l ++ x :: r) = lenX xs ∧ ∀ g, Blk p b (l ++ x :: r) g → Blk p b xs g ∨ w.heap.size ≤ g := by
  rcases name_cases nm xs h.map.nm with hn | ⟨l, x, r, rfl, hx, hl1, hr1⟩
  · refine (fileOf_miss h hl hn).mono ?_
    rintro e w' ⟨rfl, hD, hC⟩
    have e1 : enter nm S.fs = S.fs ++ [⟨nm, [], 0⟩] := by
      unfold enter
      rw [if_neg]
      rw [h.fs, List.any_map, Bool.not_eq_true, List.any_eq_false]
      intro y hy
      simp [X.fl, hn y hy]
    refine ⟨xs, ⟨nm, w.heap.size, ck, .slice none 0 0, [], 0⟩, [], ck + 1, rfl, ?_, rfl, hn, by simp, hC, ?_, fun g hg => ?_⟩
    · rw [e1]; exact hD
    · rw [lenX_append]; simp [lenX]
    · rcases hg with h1 | h1 | ⟨x, hx, h1⟩
      · exact .inl (.inl h1)
      · exact .inl (.inr (.inl h1))
      · rcases List.mem_append.1 hx with hx | hx
        · exact .inl (.inr (.inr ⟨x, hx, h1⟩))
        · simp at hx
          subst hx
          rcases h1 with h1 | h1
          · exact .inr (Nat.le_of_eq h1.symm)
          · simp [Value.ownBlock] at h1
  · refine (fileOf_hit h hx hl1).mono ?_
    rintro e w' ⟨rfl, rfl⟩
    have e1 : enter nm S.fs = S.fs := by
      unfold enter
      rw [if_pos]
      rw [h.fs, List.any_map, List.any_eq_true]
      exact ⟨x, by simp, by simp [X.fl, hx]⟩
    exact ⟨l, x, r, ck, rfl, by rw [e1]; exact h, hx, hl1, hr1, Chg.refl _ _, rfl, fun g hg => .inl hg⟩
def takeN (S : Dk) (m : Nat) : Nat := min m (S.limit - used S.fs)
def Nxt (w w' : World) (p b : Nat) (xs : List X) (S' : Dk) : Prop := ∃ xs' ck', DiskAt w' p b S' xs' ck' ∧ Chg (Blk p b xs) w w' ∧ ∀ g, Blk p b xs' g → Blk p b xs g ∨ w.heap.size ≤ g
def appS (S : Dk) (nm bs : List UInt8) : Dk := { S with fs := growP nm (bs.take (takeN S bs.length)) S.fs }
def appP (S : Dk) (nm bs : List UInt8) : Dk × Int × Int := if S.steps = 1 then (crashP S.keep (appS S nm bs), 0, 110) else ({ appS S nm bs with steps := S.steps - 1 }, (takeN S bs.length : Int), if takeN S bs.length < bs.length then 111 else 0)
theorem Rw.ne_map {α : Type} {f : α → List Value} {k : Nat} (hf : Lay f k) {W : World} {a : Addr} {n cap : Nat} {l : List α} (h : Rw f k W (some a) n cap l) (h0 : 0 < n) {b ck : Nat} {es : Array MapEntry} (hb : W.heap[b]? = some (.map es ck)) : a.block ≠ b := by
  obtain ⟨g, off, ha, hg, hc⟩ := h.cells h0
  have hl := h.len
  cases ha
  rintro rfl
  have hx : l[0]? = some l[0] := List.getElem?_eq_getElem (by omega)
  have hk := hf.len l[0]
  have hp := hf.pos
  have := hc 0 _ hx 0 (f l[0])[0] (List.getElem?_eq_getElem (by omega))
  unfold World.cell? at this
  rw [hb] at this
  simp at this
theorem Rw.chgMap {α : Type} {f : α → List Value} {k : Nat} (hf : Lay f k) {W W' : World} {a : Option Addr} {n cap : Nat} {l : List α} (h : Rw f k W a n cap l) {b ck : Nat} {es : Array MapEntry} (hb : W.heap[b]? = some (.map es ck)) (hC : Chg (fun g => g = b) W W') : Rw f k W' a n cap l :=
  ⟨h.len, h.room, fun hn => by
    obtain ⟨g, off, ha, hg, hc⟩ := h.cells hn
    subst ha
    have hne := h.ne_map hf hn hb
    exact ⟨g, off, rfl, by have := hC.size; omega, fun j x hj i v hv => (hC.cell (p := ⟨g, off + j * k + i, none⟩) hg hne).trans (hc j x hj i v hv)⟩⟩
theorem lenX_mem {xs : List X} {x : X} (h : x ∈ xs) : x.bs.length ≤ lenX xs := by
  obtain ⟨a, c, rfl⟩ := List.append_of_mem h
  simp [lenX]
  omega
def grownX (x : X) (v : Value) (bs : List UInt8) : X := { x with v := v, bs := x.bs ++ bs }
theorem append_mid {w1 w2 w3 w8 : World} {p b ck3 n : Nat} {S : Dk} {xs l r : List X} {x : X} {nm bs : List UInt8} {v : Value} (hD3 : DiskAt w3 p b { S with fs := enter nm S.fs } (l ++ x :: r) ck3) (hx : x.nm = nm) (hl3 : ∀ y ∈ l, y.nm ≠ nm) (hr3 : ∀ y ∈ r, y.nm ≠ nm) (hC3 : Chg (fun g => g = b) w2 w3) (hlen3 : lenX (l ++ x :: r) = lenX xs) (hblk3 : ∀ g, Blk p b (l ++ x :: r) g → Blk p b xs g ∨ w2.heap.size ≤ g) (hcur : Below w1.heap.size w1 w2)
    (ho8 : OwnF byU 1 5 w8 0 v (x.bs ++ bs.take n)) (hB8 : Below 0 w3.drew w8) (hK8 : Keeps w3.drew w8 x.v) (hg8 : ∀ g, v.ownBlock = some g → x.v.ownBlock = some g ∨ w3.heap.size ≤ g) (hq8 : w8.heap[x.q]? = some (.cells #[x.v, .int .i64 (x.syn : Int)] 68)) (hn : takeN S bs.length = n) (hln : (bs.take n).length = n) (hsum : lenX xs + n ≤ 1099511627776) :
    DiskAt (w8.setCell ⟨x.q, 0, none⟩ v) p b (appS S nm bs) (l ++ grownX x v (bs.take n) :: r) ck3 ∧ Chg (Blk p b xs) w1 (w8.setCell ⟨x.q, 0, none⟩ v) ∧ (∀ g, Blk p b (l ++ grownX x v (bs.take n) :: r) g → Blk p b xs g ∨ w1.heap.size ≤ g) ∧ lenX (l ++ grownX x v (bs.take n) :: r) ≤ 1099511627776 := by
  have hxm : x ∈ l ++ x :: r := by simp
  have hF := hD3.file x hxm
  have hs12 := hcur.size
  have hs23 := hC3.size
  have hC8 : Chg (fun g => x.v.ownBlock = some g) w3 w8 := (Chg.refl _ w3).drew.trans ⟨hB8, fun g hg hd => hK8 g hg hd⟩
  have hC9 : Chg (fun g => g = x.q) w8 (w8.setCell ⟨x.q, 0, none⟩ v) := Chg.set (D := fun g => g = x.q) (q := x.q) 0 _ _ rfl
  have hC39 : Chg (fun g => g = x.q ∨ x.v.ownBlock = some g) w3 (w8.setCell ⟨x.q, 0, none⟩ v) := (hC8.mono (fun g _ e => .inr e)).trans (hC9.mono (fun g _ e => .inl e))
  have hF9 : FileAt (w8.setCell ⟨x.q, 0, none⟩ v) (grownX x v (bs.take n)) := by
    refine ⟨heap_setCell_cells hq8 0 v, ho8.chg hC9 (fun g hg e => ?_), ?_⟩
    · rcases hg8 g hg with h | h
      · exact q_ne_g hF hF h e.symm
      · have := hF.lt; omega
    · show x.syn ≤ (x.bs ++ bs.take n).length
      have := hF.syn
      rw [List.length_append]; omega
  have hD9 := hD3.upd hC39 hF9 rfl rfl rfl hg8
  have hst : ({ S with fs := l.map X.fl ++ (grownX x v (bs.take n)).fl :: r.map X.fl } : Dk) = appS S nm bs := by
    unfold appS
    rw [hn, growP_mid (x' := grownX x v (bs.take n)) hD3.fs hx hl3 hr3 rfl]
  have hD9' : DiskAt (w8.setCell ⟨x.q, 0, none⟩ v) p b (appS S nm bs) (l ++ grownX x v (bs.take n) :: r) ck3 := by
    rw [← hst]; exact hD9
  refine ⟨hD9', ?_, ?_, ?_⟩
  · have h13 : Chg (Blk p b xs) w1 w3 := (Chg.of_below hcur).trans (hC3.mono (fun g _ e => .inr (.inl e)))
    refine h13.then hC39 (fun g hg => ?_)
    have : Blk p b (l ++ x :: r) g := .inr (.inr ⟨x, hxm, hg⟩)
    rcases hblk3 g this with h | h
    · exact .inl h
    · exact .inr (by omega)
  · intro g hg
    have h0 : Blk p b (l ++ x :: r) g ∨ w3.heap.size ≤ g := by
      rcases hg with h | h | ⟨y, hy, h⟩
      · exact .inl (.inl h)
      · exact .inl (.inr (.inl h))
      · rcases List.mem_append.1 hy with hy | hy
        · exact .inl (.inr (.inr ⟨y, by simp [hy], h⟩))
        · rcases List.mem_cons.1 hy with rfl | hy
          · rcases h with h | h
            · exact .inl (.inr (.inr ⟨x, hxm, .inl h⟩))
            · rcases hg8 g h with h | h
              · exact .inl (.inr (.inr ⟨x, hxm, .inr h⟩))
              · exact .inr h
          · exact .inl (.inr (.inr ⟨y, by simp [hy], h⟩))
    rcases h0 with h | h
    · rcases hblk3 g h with h | h
      · exact .inl h
      · exact .inr (by omega)
    · exact .inr (by omega)
  · have : lenX (l ++ grownX x v (bs.take n) :: r) = lenX (l ++ x :: r) + n := by
      simp only [lenX, grownX, List.map_append, List.map_cons, List.sum_append, List.sum_cons, List.length_append, hln]
      omega
    omega
set_option maxHeartbeats 4000000 in
theorem append_any {w : World} {p b ck : Nat} {S : Dk} {xs : List X} (h : DiskAt w p b S xs ck) (hO : S.Ok) (nm : List UInt8) (hr : readyP S nm = 0) (hl : nm.length ≤ 281474976710656) {a : Option Addr} {m cap : Nat} {bs : List UInt8} (hb : Rw byU 1 w a m cap bs) :
    Calls Try.prog 9 #[.pointer (some ⟨p, 0, none⟩), .string ⟨nm.toArray⟩, .slice a m cap] w fun e w' => e = .returned (.tuple #[.int .i64 (appP S nm bs).2.1, .int .i64 (appP S nm bs).2.2]) ∧ Nxt w w' p b xs (appP S nm bs).1 := by
  have hus : used S.fs = lenX xs := by rw [h.fs, used_lenX]
  have hlim := hO.lim
  have huse := hO.use
  have hbl := hb.len
  have hroom := hb.room
  simp only [maxLen] at hroom
  obtain ⟨n, hn⟩ : ∃ n, takeN S bs.length = n := ⟨_, rfl⟩
  have hnn : n = min m (S.limit - lenX xs) := by rw [← hn, ← hus, ← hbl]; rfl
  have HR : Hid (∀ W, DiskAt W p b S xs ck → Calls Try.prog 22 #[.pointer (some ⟨p, 0, none⟩), .string ⟨nm.toArray⟩] W fun e w' => e = .returned (.int .i64 0) ∧ w' = W) := fun W hW => by
    have := ready_any hW nm (by omega)
    rw [hr] at this
    exact this
  have HD : Hid (DiskAt w p b S xs ck) := h
  have c0 := (box5 h.box).1
  have HA : Hid (S.Ok ∧ Rw byU 1 w a m cap bs ∧ takeN S bs.length = n ∧ used S.fs = lenX xs ∧ bs.length = m ∧ n ≤ m ∧ lenX xs + n ≤ S.limit ∧ S.limit ≤ 1099511627776 ∧ m ≤ cap ∧ nm.length ≤ 281474976710656 ∧ n ≤ cap) := ⟨hO, hb, hn, hus, hbl, by omega, by omega, hlim, hroom.1, hl, by omega⟩
  have g0 : IntKind.i64.wrap ((S.limit : Int) - (lenX xs : Int)) = ((S.limit - lenX xs : Nat) : Int) := by rw [IntWalk.i64_in _ (by omega)]; omega
  have HM : ∀ ats ty W, (Builtin.min_ ats ty #[.int .i64 (m : Int), .int .i64 ((S.limit - lenX xs : Nat) : Int)]).run Try.prog W = .ok (.int .i64 (n : Int)) W := fun ats ty W => by
    rw [min_run]; congr 2; omega
  have HU : Hid (∀ W, Below w.heap.size w W → Calls Try.prog 19 #[.pointer (some ⟨p, 0, none⟩)] W fun e w' => e = .returned (.int .i64 (lenX xs : Int)) ∧ Below W.heap.size W w') := fun W hW => used_any (h.below hW) (by omega)
  have HCU : ∀ W : World, (Instr.slice 22 (.slice a m cap) none (some (.int .i64 (n : Int))) none).run Try.prog W = .ok (.slice a n cap) W := fun W => cutU W a m cap n (by omega)
  have hnm : (n < m) ∨ ¬ (n < m) := by omega
  clear h hO hb hr hn hus hbl hroom hlim huse hl hnn
  obtain ⟨s, hs⟩ : ∃ s, s = (⟨nm.toArray⟩ : ByteArray) := ⟨_, rfl⟩
  have HSS : Hid (s = (⟨nm.toArray⟩ : ByteArray)) := hs
  rw [← hs] at HR ⊢
  clear hs
  go_enter Try.func9, Try.ntmps9
  go_wp2_with fail
  refine (HR.out _ HD.out).mono ?_
  rintro e w1 ⟨rfl, rfl⟩
  go_wp2_with fail
  refine wp_region_held_drew (S := (fun W => W.cell? ⟨p, 0, none⟩ = some (.int .i64 (S.limit : Int)))) (by kernel_rfl) ?hS1 (fun hHeld => ?rest1)
  case hS1 => exact c0
  refine takeD (i := 0) (d := some 17) (v := ?vT2) rfl rfl (by kernel_rfl) (by kernel_rfl) (by kernel_rfl) (fun _ _ _ h => h) (Or.inl ⟨by rfl, ?hyT2⟩) (by assumption) ?rstT2
  case hyT2 => (intro w hSw; (try dsimp only at hSw); go_simp; (try with_reducible rfl))
  try simp only [Act.put, List.setIfInBounds_toArray, List.set_cons_zero, List.set_cons_succ]
  refine takeD (i := 1) (d := some 18) (v := ?vT3) rfl rfl (by kernel_rfl) (by kernel_rfl) (by kernel_rfl) (fun _ _ _ h => h) (Or.inl ⟨by rfl, ?hyT3⟩) (by assumption) ?rstT3
  case hyT3 => (intro w hSw; (try dsimp only at hSw); go_simp; (try with_reducible rfl))
  try simp only [Act.put, List.setIfInBounds_toArray, List.set_cons_zero, List.set_cons_succ]
  refine takeD (i := 2) (d := some 19) (v := ?vT4) rfl rfl (by kernel_rfl) (by kernel_rfl) (by kernel_rfl) (fun _ _ _ h => h) (Or.inl ⟨by rfl, ?hyT4⟩) (by assumption) ?rstT4
  case hyT4 => (intro w hSw; (try dsimp only at hSw); go_simp; (try with_reducible rfl))
  try simp only [Act.put, List.setIfInBounds_toArray, List.set_cons_zero, List.set_cons_succ]
  refine takeD (i := 3) (d := some 20) (v := ?vT5) rfl rfl (by kernel_rfl) (by kernel_rfl) (by kernel_rfl) (fun _ _ _ h => h) (Or.inl ⟨by rfl, ?hyT5⟩) (by assumption) ?rstT5
  case hyT5 => (intro w hSw; (try dsimp only at hSw); go_simp; (try with_reducible rfl))
  try simp only [Act.put, List.setIfInBounds_toArray, List.set_cons_zero, List.set_cons_succ]
  refine takeD (i := 4) (d := some 21) (v := ?vT6) rfl rfl (by kernel_rfl) (by kernel_rfl) (by kernel_rfl) (fun _ _ _ h => h) (Or.inl ⟨by rfl, ?hyT6⟩) (by assumption) ?rstT6
  case hyT6 => (intro w hSw; (try dsimp only at hSw); go_simp; (try with_reducible rfl))
  try simp only [Act.put, List.setIfInBounds_toArray, List.set_cons_zero, List.set_cons_succ]
  refine takeD (i := 5) (d := some 22) (v := ?vT7) rfl rfl (by kernel_rfl) (by kernel_rfl) (by kernel_rfl) (fun _ _ _ h => h) (Or.inl ⟨by rfl, ?hyT7⟩) (by assumption) ?rstT7
  case hyT7 => (intro w hSw; (try dsimp only at hSw); go_simp; (try with_reducible rfl))
  try simp only [Act.put, List.setIfInBounds_toArray, List.set_cons_zero, List.set_cons_succ]
  refine takeD (i := 6) (d := some 23) (v := ?vT8) rfl rfl (by kernel_rfl) (by kernel_rfl) (by kernel_rfl) (fun _ _ _ h => h) (Or.inl ⟨by rfl, ?hyT8⟩) (by assumption) ?rstT8
  case hyT8 => (intro w hSw; (try dsimp only at hSw); go_simp; (try with_reducible rfl))
  try simp only [Act.put, List.setIfInBounds_toArray, List.set_cons_zero, List.set_cons_succ]
  refine wpAnyH_ready (rs := [7]) (by kernel_rfl) (by simp) ?_
  refine AllReadyH.cons rfl (fun K hK => ?_) AllReadyH.nil
  go_simp
  refine (HU.out _ (below_drewN (Below.refl _ _) 1)).mono ?_
  rintro e2 w2 ⟨rfl, hb2⟩
  have hcur : Below w1.heap.size w1 w2 := (below_drewN (Below.refl _ _) 1).trans hb2
  clear hb2
  clear hHeld
  refine hK.out _ _ ?hS9 (fun hHeld => ?rest9)
  case hS9 => (show w2.cell? _ = _; exact (box5 (HD.out.below hcur).box).1)
  clear hK K
  try simp only [Act.put, List.setIfInBounds_toArray, List.set_cons_zero, List.set_cons_succ]
  refine takeD (i := 8) (d := some 25) (v := ?vT10) rfl rfl (by kernel_rfl) (by kernel_rfl) (by kernel_rfl) (fun _ _ _ h => h) (Or.inl ⟨by rfl, ?hyT10⟩) (by assumption) ?rstT10
  case hyT10 => (intro w hSw; (try dsimp only at hSw); go_simp; (try with_reducible rfl))
  try simp only [Act.put, List.setIfInBounds_toArray, List.set_cons_zero, List.set_cons_succ]
  refine takeD (i := 9) (d := some 26) (v := ?vT11) rfl rfl (by kernel_rfl) (by kernel_rfl) (by kernel_rfl) (fun _ _ _ h => h) (Or.inl ⟨by rfl, ?hyT11⟩) (by assumption) ?rstT11
  case hyT11 => (intro w hSw; (try dsimp only at hSw); go_simp; (try with_reducible rfl))
  try simp only [Act.put, List.setIfInBounds_toArray, List.set_cons_zero, List.set_cons_succ]
  refine takeD (i := 10) (d := some 9) (v := ?vT12) rfl rfl (by kernel_rfl) (by kernel_rfl) (by kernel_rfl) (fun _ _ _ h => h) (Or.inl ⟨by rfl, ?hyT12⟩) (by assumption) ?rstT12
  case hyT12 => (intro w hSw; (try dsimp only at hSw); go_simp; (try with_reducible rfl))
  try simp only [Act.put, List.setIfInBounds_toArray, List.set_cons_zero, List.set_cons_succ]
  refine wpAnyH_done (by kernel_rfl) ?_ _
  go_wp2_with fail
  obtain ⟨hO, hb, hn, hus, hbl, hnm2, hsum, hlim, hmc, hl, hnc⟩ := HA.out
  have hD2 := HD.out.below hcur
  have hb2 := hb.below hcur
  rw [HSS.out]
  refine (fileOf_any hD2 nm hl).mono ?_
  rintro e w3 ⟨l, x, r, ck3, rfl, hD3, hx, hl3, hr3, hC3, hlen3, hblk3⟩
  have hb3 := hb2.chgMap layU hD2.map.heap hC3
  have hxm : x ∈ l ++ x :: r := by simp
  have hF := hD3.file x hxm
  have hxl := lenX_mem hxm
  obtain ⟨d0, d1⟩ := box2 hF.box
  have hF8 : OwnF byU 1 5 w3.drew 0 x.v x.bs := hF.own.chg (D := fun _ => False) (Chg.refl _ _).drew (fun _ _ f => f)
  have hb8 : Rw byU 1 w3.drew a n cap (bs.take n) := (hb3.chg (D := fun _ => False) (Chg.refl _ _).drew (fun _ _ f => f)).take n hnm2
  obtain ⟨a8, cap8, w8, hr8, ho8, hB8, hK8, hg8⟩ := appendU kindU layU hF8 (Nat.zero_le _) hb8 (by omega) (by omega) 22
  obtain ⟨va, vc, hv, _⟩ := own_shape hF.own
  rw [hv] at hr8 d0
  have HV : Hid (x.v = .slice va x.bs.length vc) := hv
  have hlt8 : x.q < w3.heap.size := hF.lt
  have hq8 : w8.heap[x.q]? = some (.cells #[x.v, .int .i64 (x.syn : Int)] 68) := (hK8 x.q hlt8 (fun e => q_ne_g hF hF e rfl)).trans hF.box
  have k0 := (box2 hq8).1
  rw [hv] at k0
  have f8 := Lib.frozen_of_heap hq8 0
  have HX : Hid (DiskAt w3 p b { S with fs := enter nm S.fs } (l ++ x :: r) ck3 ∧ x.nm = nm ∧ (∀ y ∈ l, y.nm ≠ nm) ∧ (∀ y ∈ r, y.nm ≠ nm) ∧ Chg (fun g => g = b) w2 w3 ∧ lenX (l ++ x :: r) = lenX xs ∧ (∀ g, Blk p b (l ++ x :: r) g → Blk p b xs g ∨ w2.heap.size ≤ g) ∧ Below w1.heap.size w1 w2) := ⟨hD3, hx, hl3, hr3, hC3, hlen3, hblk3, hcur⟩
  have HY : Hid (OwnF byU 1 5 w8 0 (.slice a8 (x.bs.length + n) cap8) (x.bs ++ bs.take n) ∧ Below 0 w3.drew w8 ∧ Keeps w3.drew w8 x.v ∧ (∀ g, (Value.slice a8 (x.bs.length + n) cap8).ownBlock = some g → x.v.ownBlock = some g ∨ w3.heap.size ≤ g) ∧ w8.heap[x.q]? = some (.cells #[x.v, .int .i64 (x.syn : Int)] 68)) := ⟨ho8, hB8, hK8, hg8, hq8⟩
  clear hO hb hn hus hbl hnm2 hsum hlim hmc hl hnc hD2 hb2 hD3 hx hl3 hr3 hC3 hlen3 hblk3 hb3 hF hxl d1 hF8 hb8 ho8 hB8 hK8 hg8 hcur hlt8 hq8 hHeld hv
  go_wp2_with fail
  refine wp_region_held_drew (S := (fun _ => True)) (by kernel_rfl) ?hS13 (fun hHeld => ?rest13)
  case hS13 => trivial
  refine takeD (i := 0) (d := some 30) (v := ?vT14) rfl rfl (by kernel_rfl) (by kernel_rfl) (by kernel_rfl) (fun _ _ _ h => h) (Or.inl ⟨by rfl, ?hyT14⟩) (by assumption) ?rstT14
  case hyT14 => (intro w hSw; (try dsimp only at hSw); go_simp; (try with_reducible rfl))
  try simp only [Act.put, List.setIfInBounds_toArray, List.set_cons_zero, List.set_cons_succ]
  refine takeD (i := 1) (d := some 31) (v := ?vT15) rfl rfl (by kernel_rfl) (by kernel_rfl) (by kernel_rfl) (fun _ _ _ h => h) (Or.inl ⟨by rfl, ?hyT15⟩) (by assumption) ?rstT15
  case hyT15 => (intro w hSw; (try dsimp only at hSw); go_simp; (try with_reducible rfl))
  try simp only [Act.put, List.setIfInBounds_toArray, List.set_cons_zero, List.set_cons_succ]
  refine takeD (i := 2) (d := some 32) (v := ?vT16) rfl rfl (by kernel_rfl) (by kernel_rfl) (by kernel_rfl) (fun _ _ _ h => h) (Or.inl ⟨by rfl, ?hyT16⟩) (by assumption) ?rstT16
  case hyT16 => (intro w hSw; (try dsimp only at hSw); go_simp; (try with_reducible rfl))
  try simp only [Act.put, List.setIfInBounds_toArray, List.set_cons_zero, List.set_cons_succ]
  refine takeD (i := 3) (d := some 33) (v := ?vT17) rfl rfl (by kernel_rfl) (by kernel_rfl) (by kernel_rfl) (fun _ _ _ h => h) (Or.inl ⟨by rfl, ?hyT17⟩) (by assumption) ?rstT17
  case hyT17 => (intro w hSw; (try dsimp only at hSw); go_simp; (try with_reducible rfl))
  try simp only [Act.put, List.setIfInBounds_toArray, List.set_cons_zero, List.set_cons_succ]
  refine takeD (i := 5) (d := some 35) (v := ?vT18) rfl rfl (by kernel_rfl) (by kernel_rfl) (by kernel_rfl) (fun _ _ _ h => h) (Or.inl ⟨by rfl, ?hyT18⟩) (by assumption) ?rstT18
  case hyT18 => (intro w hSw; (try dsimp only at hSw); go_simp; (try with_reducible rfl))
  try simp only [Act.put, List.setIfInBounds_toArray, List.set_cons_zero, List.set_cons_succ]
  refine takeD (i := 6) (d := some 36) (v := ?vT19) rfl rfl (by kernel_rfl) (by kernel_rfl) (by kernel_rfl) (fun _ _ _ h => h) (Or.inl ⟨by rfl, ?hyT19⟩) (by assumption) ?rstT19
  case hyT19 => (intro w hSw; (try dsimp only at hSw); go_simp; (try with_reducible rfl))
  try simp only [Act.put, List.setIfInBounds_toArray, List.set_cons_zero, List.set_cons_succ]
  refine takeD (i := 7) (d := some 37) (v := ?vT20) rfl rfl (by kernel_rfl) (by kernel_rfl) (by kernel_rfl) (fun _ _ _ h => h) (Or.inl ⟨by rfl, ?hyT20⟩) (by assumption) ?rstT20
  case hyT20 => (intro w hSw; (try dsimp only at hSw); go_simp; (try with_reducible rfl))
  try simp only [Act.put, List.setIfInBounds_toArray, List.set_cons_zero, List.set_cons_succ]
  refine wpAnyH_ready (rs := [4]) (by kernel_rfl) (by simp) ?_
  refine AllReadyH.cons rfl (fun K hK => ?_) AllReadyH.nil
  go_simp
  clear hHeld
  refine hK.out _ _ ?hS21 (fun hHeld => ?rest21)
  case hS21 => trivial
  clear hK K
  try simp only [Act.put, List.setIfInBounds_toArray, List.set_cons_zero, List.set_cons_succ]
  refine wpAnyH_ready (rs := [8]) (by kernel_rfl) (by simp) ?_
  refine AllReadyH.cons rfl (fun K hK => ?_) AllReadyH.nil
  rw [if_pos (by rfl)]
  refine wp_append_hr (.tmp 34) (.tmp 37) 22 (some 38) rfl rfl _ _ rfl rfl hr8 ?_
  clear hHeld
  refine hK.out _ _ ?hS22 (fun hHeld => ?rest22)
  case hS22 => trivial
  clear hK K
  try simp only [Act.put, List.setIfInBounds_toArray, List.set_cons_zero, List.set_cons_succ]
  refine takeD (i := 9) (d := some 39) (v := ?vT23) rfl rfl (by kernel_rfl) (by kernel_rfl) (by kernel_rfl) (fun _ _ _ h => h) (Or.inl ⟨by rfl, ?hyT23⟩) (by assumption) ?rstT23
  case hyT23 => (intro w hSw; (try dsimp only at hSw); go_simp; (try with_reducible rfl))
  try simp only [Act.put, List.setIfInBounds_toArray, List.set_cons_zero, List.set_cons_succ]
  refine takeD (i := 10) (d := some 40) (v := ?vT24) rfl rfl (by kernel_rfl) (by kernel_rfl) (by kernel_rfl) (fun _ _ _ h => h) (Or.inl ⟨by rfl, ?hyT24⟩) (by assumption) ?rstT24
  case hyT24 => (intro w hSw; (try dsimp only at hSw); go_simp; (try with_reducible rfl))
  try simp only [Act.put, List.setIfInBounds_toArray, List.set_cons_zero, List.set_cons_succ]
  refine wpAnyH_ready (rs := [11]) (by kernel_rfl) (by simp) ?_
  refine AllReadyH.cons rfl (fun K hK => ?_) AllReadyH.nil
  go_simp
  clear hHeld
  refine hK.out _ _ ?hS25 (fun hHeld => ?rest25)
  case hS25 => trivial
  clear hK K
  try simp only [Act.put, List.setIfInBounds_toArray, List.set_cons_zero, List.set_cons_succ]
  refine wpAnyH_done (by kernel_rfl) ?_ _
  go_wp2_with fail
  clear hHeld g0 HM HCU HR HU k0 f8 hr8 d0 c0
  obtain ⟨W9, hW9⟩ : ∃ W9, w8.setCell ⟨x.q, 0, none⟩ (.slice a8 (x.bs.length + n) cap8) = W9 := ⟨_, rfl⟩
  rw [hW9]
  have HE : Hid (DiskAt W9 p b (appS S nm bs) (l ++ grownX x (.slice a8 (x.bs.length + n) cap8) (bs.take n) :: r) ck3 ∧ Chg (Blk p b xs) w1 W9 ∧ (∀ g, Blk p b (l ++ grownX x (.slice a8 (x.bs.length + n) cap8) (bs.take n) :: r) g → Blk p b xs g ∨ w1.heap.size ≤ g) ∧ lenX (l ++ grownX x (.slice a8 (x.bs.length + n) cap8) (bs.take n) :: r) ≤ 1099511627776) := by
    rw [← hW9]
    obtain ⟨hO, hb, hn, hus, hbl, hnm2, hsum, hlim, hmc, hl, hnc⟩ := HA.out
    obtain ⟨hD3, hx, hl3, hr3, hC3, hlen3, hblk3, hcur⟩ := HX.out
    obtain ⟨ho8, hB8, hK8, hg8, hq8⟩ := HY.out
    exact append_mid hD3 hx hl3 hr3 hC3 hlen3 hblk3 hcur ho8 hB8 hK8 hg8 hq8 hn (by rw [List.length_take]; omega) (by omega)
  clear hW9 HX HY HV
  have HO := HA.out.1
  have hst := HO.st
  have hkp := HO.kp
  have hn9 := HA.out.2.2.1
  have hm9 := HA.out.2.2.2.2.1
  by_cases h1 : S.steps = 1
  · have hap : appP S nm bs = (crashP S.keep (appS S nm bs), 0, 110) := if_pos h1
    have HAP : Hid (appP S nm bs = (crashP S.keep (appS S nm bs), 0, 110)) := hap
    have HU9 : Hid (Calls Try.prog 24 #[.pointer (some ⟨p, 0, none⟩)] W9 fun e w' => e = .returned (.bool true) ∧ DiskAt w' p b { appS S nm bs with steps := S.steps - 1 } (l ++ grownX x (.slice a8 (x.bs.length + n) cap8) (bs.take n) :: r) ck3 ∧ Chg (fun g => g = p) W9 w' ∧ w'.heap.size = W9.heap.size) := by
      have := due_any HE.out.1 hst
      rw [show (decide ((appS S nm bs).steps = 1)) = true from decide_eq_true h1] at this
      exact this
    have HK9 : Hid (S.keep ≤ 9223372036854775807) := hkp
    clear hap h1 hst hkp hn9 hm9 HO hnm
    refine HU9.out.mono ?_
    rintro e w10 ⟨rfl, hD10, hC10, hs10⟩
    have HG : Hid (Calls Try.prog 25 #[.pointer (some ⟨p, 0, none⟩)] w10 fun e w' => e = .returned (.int .i64 110) ∧ DiskAt w' p b (crashP S.keep (appS S nm bs)) (leftX S.keep (l ++ grownX x (.slice a8 (x.bs.length + n) cap8) (bs.take n) :: r)) ck3 ∧ Chg (Blk p b (l ++ grownX x (.slice a8 (x.bs.length + n) cap8) (bs.take n) :: r)) w10 w') := by
      have := giveUp_any hD10 HE.out.2.2.2 HK9.out
      exact this
    have HC10 : Hid (Chg (fun g => g = p) W9 w10) := hC10
    clear hD10 hC10 hs10 HU9
    go_wp2_with fail
    refine HG.out.mono ?_
    rintro e w11 ⟨rfl, hD11, hC11⟩
    have HF : Hid (DiskAt w11 p b (crashP S.keep (appS S nm bs)) (leftX S.keep (l ++ grownX x (.slice a8 (x.bs.length + n) cap8) (bs.take n) :: r)) ck3 ∧ Chg (Blk p b (l ++ grownX x (.slice a8 (x.bs.length + n) cap8) (bs.take n) :: r)) w10 w11) := ⟨hD11, hC11⟩
    clear hD11 hC11 HG
    go_wp2_with fail
    go_ret2
    rw [HAP.out]
    refine ⟨rfl, _, _, HF.out.1, (HE.out.2.1.then HC10.out (fun g e => .inl (.inl e))).then HF.out.2 HE.out.2.2.1, fun g hg => HE.out.2.2.1 g (leftX_blk hg)⟩
  · have hap : appP S nm bs = ({ appS S nm bs with steps := S.steps - 1 }, (n : Int), if n < m then 111 else 0) := by rw [← hn9, ← hm9]; exact if_neg h1
    have HAP : Hid (appP S nm bs = ({ appS S nm bs with steps := S.steps - 1 }, (n : Int), if n < m then 111 else 0)) := hap
    have HU9 : Hid (Calls Try.prog 24 #[.pointer (some ⟨p, 0, none⟩)] W9 fun e w' => e = .returned (.bool false) ∧ DiskAt w' p b { appS S nm bs with steps := S.steps - 1 } (l ++ grownX x (.slice a8 (x.bs.length + n) cap8) (bs.take n) :: r) ck3 ∧ Chg (fun g => g = p) W9 w' ∧ w'.heap.size = W9.heap.size) := by
      have := due_any HE.out.1 hst
      rw [show (decide ((appS S nm bs).steps = 1)) = false from decide_eq_false h1] at this
      exact this
    clear hap h1 hst hkp hn9 hm9 HO
    refine HU9.out.mono ?_
    rintro e w10 ⟨rfl, hD10, hC10, hs10⟩
    have HF : Hid (Nxt w1 w10 p b xs { appS S nm bs with steps := S.steps - 1 }) := ⟨_, _, hD10, HE.out.2.1.then hC10 (fun g e => .inl (.inl e)), HE.out.2.2.1⟩
    clear hD10 hC10 hs10 HU9
    rcases hnm with hlt | hlt
    · have hlt2 : (n : Int) < (m : Int) := by omega
      rw [if_pos hlt] at HAP
      clear hlt
      go_wp2_with fail
      go_ret2
      rw [HAP.out]
      exact ⟨rfl, HF.out⟩
    · have hlt2 : ¬ ((n : Int) < (m : Int)) := by omega
      rw [if_neg hlt] at HAP
      clear hlt
      go_wp2_with fail
      go_ret2
      rw [HAP.out]
      exact ⟨rfl, HF.out⟩
end Go.Proofs.Ytjcfeaekhefpfaa
