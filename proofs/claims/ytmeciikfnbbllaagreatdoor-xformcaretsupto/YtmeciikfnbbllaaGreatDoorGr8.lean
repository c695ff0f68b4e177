import Derived.Test.YtmeciikfnbbllaaGreatDoorChk
import Derived.Test.YtmeciikfnbbllaaGreatDoorLow
import Derived.Test.YtmeciikfnbbllaaGreatDoorSpC
import Derived.Test.YtmeciikfnbbllaaGreatDoorGr5
namespace Go.Proofs.YtmeciikfnbbllaaGreatDoor
open Go.RowKit Go.Lib
theorem encs_len2 (rs : List Int) : rs.length ≤ (encs rs).length := by
  induction rs with
  | nil => simp
  | cons r rs ih => have := encB_pos r; rw [encs_cons, List.length_cons, List.length_append]; omega
def posOf (rs : List Int) (j : Nat) : Nat := (encs (rs.take j)).length
theorem posOf_zero (rs : List Int) : posOf rs 0 = 0 := by simp [posOf, encs]
theorem posOf_succ (rs : List Int) (j : Nat) (h : j < rs.length) : posOf rs (j + 1) = posOf rs j + (encB rs[j]).length := by
  unfold posOf
  rw [List.take_succ_eq_append_getElem h, encs_append, List.length_append]
  simp [encs]
theorem posOf_all (rs : List Int) : posOf rs rs.length = (encs rs).length := by simp [posOf]
theorem posOf_drop (rs : List Int) (j : Nat) : (encs rs).drop (posOf rs j) = encs (rs.drop j) := by
  unfold posOf
  have h := encs_append (rs.take j) (rs.drop j)
  rw [List.take_append_drop] at h
  rw [h, List.drop_left]
theorem posOf_take (rs : List Int) (j : Nat) : (encs rs).take (posOf rs j) = encs (rs.take j) := by
  unfold posOf
  have h := encs_append (rs.take j) (rs.drop j)
  rw [List.take_append_drop] at h
  rw [h, List.take_left]
theorem posOf_mono (rs : List Int) {i j : Nat} (h : i ≤ j) : posOf rs i ≤ posOf rs j := by
  unfold posOf
  have h2 : rs.take j = rs.take i ++ (rs.take j).drop i := by
    have := List.take_append_drop i (rs.take j)
    rw [List.take_take, Nat.min_eq_left h] at this
    exact this.symm
  rw [h2, encs_append, List.length_append]
  omega
theorem posOf_le (rs : List Int) (j : Nat) : posOf rs j ≤ (encs rs).length := by
  rcases Nat.le_total j rs.length with h | h
  · rw [← posOf_all]; exact posOf_mono rs h
  · rw [posOf, List.take_of_length_le h]; exact Nat.le_refl _
theorem posOf_lt (rs : List Int) {i j : Nat} (h : i < j) (hj : j ≤ rs.length) : posOf rs i < posOf rs j := by
  have h1 := posOf_succ rs i (by omega)
  have h2 := encB_pos rs[i]
  have h3 := posOf_mono rs (show i + 1 ≤ j by omega)
  omega
theorem posOf_ge (rs : List Int) (j : Nat) (h : j ≤ rs.length) : j ≤ posOf rs j := by
  have := encs_len2 (rs.take j)
  rw [List.length_take, Nat.min_eq_left h] at this
  exact this
structure IsText (s : ByteArray) (rs : List Int) : Prop where
  bytes : s.data.toList = encs rs
  ok : ∀ r ∈ rs, okR r
theorem IsText.size {s : ByteArray} {rs : List Int} (h : IsText s rs) : s.size = posOf rs rs.length := by rw [size_data, h.bytes, posOf_all]
theorem IsText.check {s : ByteArray} {rs : List Int} (h : IsText s rs) : check s = ((rs.length : Int), 0, 0) := check_text s rs h.bytes h.ok
theorem IsText.okAt {s : ByteArray} {rs : List Int} (h : IsText s rs) (j : Nat) (hj : j < rs.length) : okR rs[j] := h.ok _ (List.getElem_mem hj)
theorem IsText.bound {s : ByteArray} {rs : List Int} (h : IsText s rs) (j : Nat) (hj : j < rs.length) : 0 ≤ rs[j] ∧ rs[j] ≤ 1114111 := by
  have := valid_le (h.okAt j hj).1
  omega
theorem IsText.decode {s : ByteArray} {rs : List Int} (h : IsText s rs) (j : Nat) (hj : j < rs.length) : Utf8.decode s (posOf rs j) = (rs[j].toNat, (encB rs[j]).length) := by
  rw [decode_dec, h.bytes, posOf_drop, List.drop_eq_getElem_cons hj, encs_cons]
  exact dec_enc _ (h.okAt j hj).1 _
theorem IsText.extract {s : ByteArray} {rs : List Int} (h : IsText s rs) (i j : Nat) (hij : i ≤ j) : IsText (s.extract (posOf rs i) (posOf rs j)) ((rs.take j).drop i) := by
  refine ⟨?_, fun r hr => h.ok r (List.mem_of_mem_take (List.mem_of_mem_drop hr))⟩
  rw [extract_list, h.bytes, posOf_take]
  have e : posOf rs i = posOf (rs.take j) i := by unfold posOf; rw [List.take_take, Nat.min_eq_left hij]
  rw [e, posOf_drop]
section
variable {P : Program}
theorem run_next_text {s : ByteArray} {rs : List Int} (h : IsText s rs) (w : World) (k j : Nat) (ty : TypeId) (hk : w.heap[k]? = some (.stringIter s (posOf rs j))) (hj : j < rs.length) :
    (Instr.next (.pointer (some ⟨k, 0, none⟩)) true ty).run P w = .ok (.tuple #[.bool true, .int .i64 (posOf rs j), .int .i32 rs[j]]) (w.iterAt k s (posOf rs (j + 1))) := by
  have hlt : posOf rs j < s.size := by rw [h.size]; exact posOf_lt rs hj (Nat.le_refl _)
  rw [run_next_any_at w k s (posOf rs j) ty hk hlt, h.decode j hj, posOf_succ rs j hj]
  have := (h.bound j hj).1
  rw [show ((rs[j].toNat : Nat) : Int) = rs[j] by omega]
theorem run_next_done {s : ByteArray} {rs : List Int} (h : IsText s rs) (w : World) (k : Nat) (ty : TypeId) (hk : w.heap[k]? = some (.stringIter s (posOf rs rs.length))) :
    (Instr.next (.pointer (some ⟨k, 0, none⟩)) true ty).run P w = .ok (.tuple #[.bool false]) w :=
  run_next_end_at w k s _ ty hk (by rw [h.size]; omega)
end
theorem iterPos_of' {w : World} {k : Nat} {s : ByteArray} {p : Nat} (h : w.heap[k]? = some (.stringIter s p)) : w.iterPos k = p := by simp [World.iterPos, h]
structure Bar (w : World) : Prop where
  lies : ∃ t fr, w.heap[0]? = some (.cells barCells t fr)
theorem Bar.below {w w' : World} (h : Bar w) (hb : Below w.heap.size w w') : Bar w' := by
  obtain ⟨t, fr, hg⟩ := h.lies
  exact ⟨t, fr, bar_below hb (Array.getElem?_eq_some_iff.1 hg).1 hg⟩
theorem Bar.alloc {w : World} (h : Bar w) (o : Obj) : Bar (w.alloc o) := h.below ((Below.refl _ _).alloc (Nat.le_refl _) _)
theorem check_bar {s : ByteArray} {n p c : Int} (hs : s.size ≤ 9223372036854775807) (h : check s = (n, p, c)) (w : World) (hw : Bar w) :
    Calls Tryz.prog 25 #[.string s] w fun e w' => e = .returned (.tuple #[.int .i64 n, .int .i64 p, .int .i64 c]) ∧ Below w.heap.size w w' := by
  obtain ⟨t, fr, hg⟩ := hw.lies
  exact check_eq s (by unfold maxLen; omega) h w fr t hg
end Go.Proofs.YtmeciikfnbbllaaGreatDoor

namespace Go.Proofs.YtmeciikfnbbllaaGreatDoor
open Go.RowKit Go.Lib Sp
set_option maxRecDepth 100000
set_option maxHeartbeats 2000000 in
theorem slicesEq_any {w : World} {a : Option Addr} {n cap : Nat} {l : List (Int × Int)} (h : Rng w a n cap l) {b : Option Addr} {m capb : Nat} {k : List (Int × Int)} (hk : Rng w b m capb k) :
    Calls Tryz.prog 92 #[.slice a n cap, .slice b m capb] w fun e w' => e = .returned (.bool (decide (l = k))) ∧ Below w.heap.size w w' := by
  have hln := h.len
  have hkn := hk.len
  have hnb : n ≤ 9223372036854775807 := by have := h.room; simp only [maxLen] at this; omega
  by_cases hnm : n = m
  · subst hnm
    obtain ⟨r, hr⟩ : ∃ r, decide (l = k) = r := ⟨_, rfl⟩
    have HR : Hid (decide (l = k) = r) := hr
    rw [hr]
    clear hr
    go_enter Tryz.func92, Tryz.ntmps92
    go_wp2_with fail
    go_loopw [5, 13] (fun u i w' => ∃ j : Nat, j ≤ n ∧ i = .int .i64 j ∧ Below w.heap.size w w' ∧ Hid (∀ i, i < j → l.getD i (0, 0) = k.getD i (0, 0))) (fun _ i _ => n - (RowKit.intOf i).toNat)
    case atStart => exact ⟨0, Nat.zero_le _, rfl, Below.refl _ _, fun i hi => by omega⟩
    case round =>
      obtain ⟨j, hjn, rfl, hb, HE⟩ := hrel
      by_cases hj : j < n
      · obtain ⟨g, off, rfl, hg, hc, hd⟩ := h.cells j hj
        obtain ⟨g2, off2, rfl, hg2, hc2, hd2⟩ := hk.cells j hj
        have c0 := (hb.cell (p := ⟨g, off + j * 2, none⟩) hg).trans hc
        have c1 := (hb.cell (p := ⟨g, off + j * 2 + 1, none⟩) hg).trans hd
        have c2 := (hb.cell (p := ⟨g2, off2 + j * 2, none⟩) hg2).trans hc2
        have c3 := (hb.cell (p := ⟨g2, off2 + j * 2 + 1, none⟩) hg2).trans hd2
        clear hc hd hc2 hd2
        by_cases he : l.getD j (0, 0) = k.getD j (0, 0)
        · have HE2 : Hid (∀ i, i < j + 1 → l.getD i (0, 0) = k.getD i (0, 0)) := fun i hi => by
            by_cases e : i = j
            · subst e; exact he
            · exact HE.out i (by omega)
          rw [← he] at c2 c3
          generalize (l.getD j (0, 0)).1 = x at *
          generalize (l.getD j (0, 0)).2 = y at *
          clear he HE
          go_wp2_with fail
          go_quiet (fail)
          go_wp2_with fail
          go_roundw
          case rel => exact ⟨j + 1, by omega, by go_num, below_drewN hb _, HE2⟩
          case measure => simp [RowKit.intOf]; omega
        · have hne : r = false := by
            rw [← HR.out]
            exact decide_eq_false (fun e => he (by rw [e]))
          subst hne
          clear HE HR
          obtain ⟨x, y, hxy⟩ : ∃ x y, l.getD j (0, 0) = (x, y) := ⟨_, _, rfl⟩
          obtain ⟨x2, y2, hxy2⟩ : ∃ x y, k.getD j (0, 0) = (x, y) := ⟨_, _, rfl⟩
          rw [hxy] at c0 c1 he
          rw [hxy2] at c2 c3 he
          simp only at c0 c1 c2 c3
          clear hxy hxy2
          by_cases hx : x = x2
          · subst hx
            have t1 : (y == y2) = false := beq_eq_false_iff_ne.2 (fun e => he (by rw [e]))
            clear he
            go_wp2_with fail
            go_quiet (fail)
            go_wp2_with fail
            go_ret
            exact ⟨rfl, below_drewN hb _⟩
          · have t1 : (x == x2) = false := beq_eq_false_iff_ne.2 hx
            clear he hx
            go_wp2_with fail
            go_quiet (fail)
            go_wp2_with fail
            go_ret
            exact ⟨rfl, below_drewN hb _⟩
      · have hr : r = true := by
          rw [← HR.out]
          refine decide_eq_true (List.ext_getElem (by omega) fun i h1 h2 => ?_)
          have := HE.out i (by omega)
          simpa [List.getD_eq_getElem?_getD, h1, h2] using this
        subst hr
        clear HR HE
        go_wp2_with fail
        go_ret
        exact ⟨rfl, hb⟩
  · have e0 : decide (l = k) = false := decide_eq_false (fun e => by subst e; omega)
    rw [e0]
    have t1 : ((n : Int) == (m : Int)) = false := by simp; omega
    clear e0 hln hkn
    go_enter Tryz.func92, Tryz.ntmps92
    go_wp2_with fail
    go_ret
    exact ⟨rfl, Below.refl _ _⟩
end Go.Proofs.YtmeciikfnbbllaaGreatDoor

namespace Go.Proofs.YtmeciikfnbbllaaGreatDoor
open Go.RowKit Go.Lib Sp
set_option maxRecDepth 100000
def opVal (o : OpV) (v : Value) : Value := .agg #[.int .i64 o.c, .int .i64 o.n, .int .i64 o.k, .int .i64 o.p, .string o.s, v, .int .i64 o.tc, .int .i64 o.tn, .bool o.on]
theorem run_eqID (w : World) (a b c d : Int) : (Op.equalIn 10000 27 (.agg #[.int .i64 a, .int .i64 b]) (.agg #[.int .i64 c, .int .i64 d])).run Tryz.prog w = .ok (a == c && b == d) w := by
  show (Op.equalIn (9998 + 1 + 1) _ _ _).run _ _ = _
  rw [Op.equalIn]
  simp only [Sem.run_bind, run_underlying Tryz.underlying27, Result.andThen_ok, Tryz.sizeOf3]
  simp [List.range', part, Tryz.isAgg3, Tryz.sizeOf3, run_equalIn_int w _ _ _ _ _ _ Tryz.underlying3, Sem.run_bind, Result.andThen_ok, Sem.run_ite]
  by_cases h1 : a = c <;> by_cases h2 : b = d <;> simp [h1, h2]
set_option maxHeartbeats 400000 in
theorem isID_any (c n : Int) (w : World) : Calls Tryz.prog 42 #[.agg #[.int .i64 c, .int .i64 n]] w fun e w' => e = .returned (.bool (isIdP c n)) ∧ Below w.heap.size w w' := by
  obtain ⟨r, hr⟩ : ∃ r, isIdP c n = r := ⟨_, rfl⟩
  rw [hr]
  unfold isIdP at hr
  by_cases h1 : 1 ≤ c
  · by_cases h2 : c ≤ 8
    · by_cases h3 : 1 ≤ n
      · by_cases h4 : n ≤ 1024
        · rw [decide_eq_true ⟨h1, h2, h3, h4⟩] at hr; subst hr
          go_enter Tryz.func42, Tryz.ntmps42
          go_wp2_with fail
          go_ret
          exact ⟨rfl, (Below.refl _ _).alloc (Nat.le_refl _) _⟩
        · rw [decide_eq_false (by omega)] at hr; subst hr
          have d4 : decide (n ≤ 1024) = false := decide_eq_false h4
          clear h4
          go_enter Tryz.func42, Tryz.ntmps42
          go_wp2_with fail
          go_ret
          exact ⟨rfl, (Below.refl _ _).alloc (Nat.le_refl _) _⟩
      · rw [decide_eq_false (by omega)] at hr; subst hr
        have d4 : decide (1 ≤ n) = false := decide_eq_false h3
        clear h3
        go_enter Tryz.func42, Tryz.ntmps42
        go_wp2_with fail
        go_ret
        exact ⟨rfl, (Below.refl _ _).alloc (Nat.le_refl _) _⟩
    · rw [decide_eq_false (by omega)] at hr; subst hr
      have d4 : decide (c ≤ 8) = false := decide_eq_false h2
      clear h2
      go_enter Tryz.func42, Tryz.ntmps42
      go_wp2_with fail
      go_ret
      exact ⟨rfl, (Below.refl _ _).alloc (Nat.le_refl _) _⟩
  · rw [decide_eq_false (by omega)] at hr; subst hr
    have d4 : decide (1 ≤ c) = false := decide_eq_false h1
    clear h1
    go_enter Tryz.func42, Tryz.ntmps42
    go_wp2_with fail
    go_ret
    exact ⟨rfl, (Below.refl _ _).alloc (Nat.le_refl _) _⟩
end Go.Proofs.YtmeciikfnbbllaaGreatDoor
