import Derived.Test.YtmdnmhdimfglaaaGreatDoorGaP
import Derived.Deep.AppendLies
namespace Go.Proofs.YtmdnmhdimfglaaaGreatDoor.Sp
open Go.RowKit Go.Lib
set_option maxRecDepth 100000
def flatB (bs : List Bool) : List Value := bs.map Value.bool
def OwnB (w : World) (B : Nat) (v : Value) (bs : List Bool) : Prop := w.ownsRow B 4 1 v bs.length (flatB bs)
theorem OwnB.rng {w : World} {B n cap : Nat} {a : Option Addr} {l : List Bool} (h : OwnB w B (.slice a n cap) l) : RngB w a n cap l := by
  rcases h.2 with ⟨e, h0⟩ | ⟨g, cap', cur, e, _, hh, hn, hm, hsz, htk⟩
  · simp only [Value.slice.injEq] at e
    obtain ⟨rfl, rfl, rfl⟩ := e
    exact ⟨h0, ⟨Nat.le_refl _, Nat.zero_le _⟩, fun j hj => by omega⟩
  · simp only [Value.slice.injEq] at e
    obtain ⟨rfl, rfl, rfl⟩ := e
    refine ⟨rfl, ⟨hn, hm⟩, fun j hj => ⟨g, 0, rfl, (Array.getElem?_eq_some_iff.1 hh).1, ?_⟩⟩
    rw [Nat.zero_add]
    have e1 : cur.toList[j]? = (flatB l)[j]? := by rw [← htk, List.getElem?_take, if_pos (by omega)]
    simp only [World.cell?, hh]
    simp only [Array.getElem?_toList] at e1
    rw [e1]
    simp [flatB, List.getElem?_eq_getElem hj, List.getD_eq_getElem?_getD]
theorem ownB_set {w : World} {B g n cap : Nat} {l : List Bool} (h : OwnB w B (.slice (some ⟨g, 0, none⟩) n cap) l) (j : Nat) (z : Bool) :
    OwnB (w.setCell ⟨g, j, none⟩ (.bool z)) B (.slice (some ⟨g, 0, none⟩) n cap) (l.set j z) := by
  have hlen := h.rng.len
  have h' : w.ownsRow B 4 1 (.slice (some ⟨g, 0, none⟩) n cap) n (flatB l) := by
    unfold OwnB at h
    rw [hlen] at h
    exact h
  have := (World.ownsRow.stored h' j (.bool z)).1
  unfold OwnB
  rw [List.length_set, hlen]
  have e : flatB (l.set j z) = (flatB l).set j (.bool z) := by simp [flatB, List.map_set]
  rw [e]
  exact this
theorem boolInfo : (Tryz.prog.info? 4).map (fun i => (i.zero, i.size, i.bytes)) = some (some (.bool false), 1, 1) := by kernel_rfl
theorem makeB (w : World) (n : Nat) (hn : n ≤ 4194304) : ∃ w', (Instr.makeSlice 128 (.int .i64 (n : Int)) (.int .i64 (n : Int))).run Tryz.prog w = .ok (.slice (some ⟨w.heap.size, 0, none⟩) n n) w' ∧ OwnB w' w.heap.size (.slice (some ⟨w.heap.size, 0, none⟩) n n) (List.replicate n false) ∧ Below w.heap.size w w' := by
  obtain ⟨i, hi, hz, hsz, hby⟩ := info_parts boolInfo
  have hr := run_make (P := Tryz.prog) w 128 4 i _ Tryz.underlying128 hi hz .i64 .i64 (n : Int) (n : Int) (by omega) (by omega) (by rw [hby]; omega) (by omega)
  simp only [hsz, Int.toNat_natCast, Nat.mul_one] at hr
  refine ⟨_, hr, ?_, (Below.refl _ _).alloc (Nat.le_refl _) _⟩
  refine ⟨by simp [flatB], .inr ⟨w.heap.size, n, _, by rw [List.length_replicate], Nat.le_refl _, heap_alloc_new w _, by simp, by simp only [maxLen]; omega, by simp [madeCells], ?_⟩⟩
  apply List.ext_getElem?
  intro k
  by_cases hk : k < n
  · simp [flatB, madeCells, hk, Value.cells, Nat.mod_one]
  · simp [flatB, madeCells, hk]
end Go.Proofs.YtmdnmhdimfglaaaGreatDoor.Sp

namespace Go.Proofs.YtmdnmhdimfglaaaGreatDoor.Sp
open Go.RowKit Go.Lib
set_option maxRecDepth 100000
theorem take_snoc_map (l : List (Int × Int)) (f : Int × Int → Int) (j : Nat) (hj : j < l.length) : (l.take (j + 1)).map f = (l.take j).map f ++ [f (l.getD j (0, 0))] := by
  have e : l.take (j + 1) = l.take j ++ [l.getD j (0, 0)] := by
    rw [pget hj]; simp
  rw [e, List.map_append]; rfl
theorem OwnI.keep {w w' : World} {B : Nat} {v u : Value} {l : List Int} (h : OwnI w B v l) (hk : Keeps w w' u) (hne : ∀ g, v.ownBlock = some g → u.ownBlock ≠ some g) : OwnI w' B v l := by
  refine ⟨h.1, ?_⟩
  rcases h.2 with h0 | ⟨g, cap, cur, e, h1, hh, rest⟩
  · exact .inl h0
  · exact .inr ⟨g, cap, cur, e, h1, (hk g (Array.getElem?_eq_some_iff.1 hh).1 (hne g (by rw [e]; rfl))).trans hh, rest⟩
theorem appendI_lie {w : World} {B : Nat} {v : Value} {n : Nat} {xs : List Int} (h : OwnI w B v xs) (hn : xs.length = n) (hB : B ≤ w.heap.size) (x : Int) (hs : (n + 1) * 8 ≤ 140737488355328) (ty : TypeId) :
    ∃ g cap' w', (Builtin.append_ #[119, 119] ty #[v, .slice (some ⟨w.heap.size, 0, none⟩) 1 1]).run Tryz.prog (w.alloc (.cells #[.int .i64 x] 3)) = .ok (.slice (some ⟨g, 0, none⟩) (n + 1) cap') w' ∧
      OwnI w' B (.slice (some ⟨g, 0, none⟩) (n + 1) cap') (xs ++ [x]) ∧ Below B w w' ∧ Keeps w w' v ∧ (v.ownBlock = some g ∨ w.heap.size < g) ∧ g < w'.heap.size := by
  obtain ⟨i, hi, hz, hsz, hby⟩ := info_parts intInfo
  have hown : (w.alloc (.cells #[.int .i64 x] 3)).ownsRow B 3 1 v n (flatI xs) := by
    unfold OwnI at h
    rw [hn] at h
    exact World.ownsRow.alloc h _
  have hcell : ∀ j u, [Value.int .i64 x][j]? = some u → (w.alloc (.cells #[.int .i64 x] 3)).cell? ((⟨w.heap.size, 0, none⟩ : Addr).add j) = some u := by
    intro j u hu
    match j, hu with
    | 0, hu =>
      obtain ⟨g', off', e, _, hc⟩ := (rngI_lit1 w x 3).cells 0 (by omega)
      cases e
      cases hu
      exact hc
  obtain ⟨g, cap', w', hr, ho, hgr, hlie, hlt⟩ := run_append_lies (P := Tryz.prog) (w.alloc (.cells #[.int .i64 x] 3)) 119 ty B 3 i _ 1 8 Tryz.underlying119 hi hz hsz hby rfl (by decide) v n (flatI xs) hown ⟨w.heap.size, 0, none⟩ 1 1 [.int .i64 x] rfl hcell (fun u hu => by simp at hu; subst hu; rfl)
    (by decide) (by simp only [maxLen]; omega) hs (by simp; omega) (w.heap.size + 1) (by simp)
  refine ⟨g, cap', w', hr, ?_, ?_, fun k hk hne => ?_, ?_, hlt⟩
  · unfold OwnI
    rw [List.length_append, hn]
    simpa [flatI] using ho
  · exact ((Below.refl B w).alloc hB _).trans (below_grown hgr (fun k hk => (World.ownsRow.lt hown k hk).1) (by simp; omega))
  · rw [hgr.block k (by simp; omega) (fun e => hne e.symm)]
    exact Below.heap_alloc w _ k hk
  · rcases hlie with e | e
    · exact .inl e
    · exact .inr (by omega)
end Go.Proofs.YtmdnmhdimfglaaaGreatDoor.Sp

namespace Go.Proofs.YtmdnmhdimfglaaaGreatDoor.Sp
open Go.RowKit Go.Lib
set_option maxRecDepth 100000
def PlOf (l L : List (Int × Int)) : Prop := Norm (-1) L ∧ (∀ r ∈ L, r.2 ≤ 2097152) ∧ (∀ q, Lies L q ↔ Lies l q) ∧ L.length ≤ 2 * l.length
theorem pl_of {l : List (Int × Int)} {y1 y2 y6 : List Int} {bs : List Bool} {n : Nat} (hl : ∀ r ∈ l, 0 ≤ r.1 ∧ r.1 ≤ r.2 ∧ r.2 ≤ 2097152) (p1 : y1.Perm (l.map (·.1))) (p2 : y2.Perm (l.map (·.2))) (p6 : y6.Perm (y1 ++ y2)) (ha : Asc y6) (hlen : y6.length = n)
    (hlb : ∀ i, i < n → bs.getD i false = decide (atMost y2 (y6.getD i 0) < atMost y1 (y6.getD i 0))) : PlOf l (joinedL y6 bs (n - 1)) := by
  subst hlen
  have hm : ∀ x, x ∈ y6 ↔ (∃ r ∈ l, r.1 = x) ∨ ∃ r ∈ l, r.2 = x := fun x => by
    rw [p6.mem_iff, List.mem_append, p1.mem_iff, p2.mem_iff, List.mem_map, List.mem_map]
  have hin : ∀ r ∈ l, r.1 ∈ y6 ∧ r.2 ∈ y6 := fun r hr => ⟨(hm _).2 (.inl ⟨r, hr, rfl⟩), (hm _).2 (.inr ⟨r, hr, rfl⟩)⟩
  have hb : ∀ x ∈ y6, (-1 : Int) < x := fun x hx => by
    rcases (hm x).1 hx with ⟨r, hr, rfl⟩ | ⟨r, hr, rfl⟩ <;> have := hl r hr <;> omega
  have hT : ∀ x ∈ y6, x ≤ (2097152 : Int) := fun x hx => by
    rcases (hm x).1 hx with ⟨r, hr, rfl⟩ | ⟨r, hr, rfl⟩ <;> have := hl r hr <;> omega
  obtain ⟨h1, h2, h3⟩ := joinedL_is ha (bs := bs) (S := fun q => Lies l q) hb hT (fun k hk => by
      rw [hlb k (by omega), decide_eq_true_iff, atMost_perm p1, atMost_perm p2]
      exact (open_iff (fun r hr => (hl r hr).2.1) _).2)
    (fun c q hcq h => lies_same hin hcq h) (fun q hq => lies_cuts hin hq)
  refine ⟨h1, h2, h3, ?_⟩
  have h4 := joinedL_length y6 bs (y6.length - 1)
  have h5 := p6.length_eq
  have h6 := p1.length_eq
  have h7 := p2.length_eq
  simp only [List.length_append, List.length_map] at h5 h6 h7
  omega
theorem ownB_frozen {w : World} {B g n cap : Nat} {l : List Bool} (h : OwnB w B (.slice (some ⟨g, 0, none⟩) n cap) l) (j : Nat) : w.frozen? ⟨g, j, none⟩ = false := by
  rcases h.2 with ⟨e, _⟩ | ⟨g', cap', cur, e, _, hh, _⟩
  · simp at e
  · simp only [Value.slice.injEq, Option.some.injEq, Addr.mk.injEq, and_true] at e
    obtain ⟨rfl, _⟩ := e
    simp [World.frozen?, hh]
theorem getD_set_lt {bs : List Bool} {k i : Nat} {z : Bool} (hk : k < bs.length) : (bs.set k z).getD i false = if i = k then z else bs.getD i false := by
  rw [List.getD_eq_getElem?_getD, List.getElem?_set]
  by_cases e : k = i
  · subst e; simp [hk]
  · rw [if_neg e, if_neg (fun h => e h.symm), List.getD_eq_getElem?_getD]
end Go.Proofs.YtmdnmhdimfglaaaGreatDoor.Sp

namespace Go.Proofs.YtmdnmhdimfglaaaGreatDoor.Sp
open Go.RowKit Go.Lib
set_option maxRecDepth 100000
def Apart (u v : Value) : Prop := ∀ g, u.ownBlock = some g → v.ownBlock ≠ some g
set_option maxHeartbeats 4000000 in
theorem places_any {w : World} {a : Option Addr} {n cap : Nat} {l : List (Int × Int)} (h : Rng w a n cap l) (hn : n ≤ 262144) (HL : Hid (∀ r ∈ l, 0 ≤ r.1 ∧ r.1 ≤ r.2 ∧ r.2 ≤ 2097152)) :
    Calls Tryz.prog 90 #[.slice a n cap] w fun e w' => ∃ o no co L, e = .returned (.slice o no co) ∧ Own w' w.heap.size (.slice o no co) L ∧ Below w.heap.size w w' ∧ Hid (PlOf l L) := by
  have hln := h.len
  go_enter Tryz.func90, Tryz.ntmps90
  go_wp2_with fail
  go_loopw [3, 4, 5] (fun v1 v2 vi w' => ∃ (j : Nat), j ≤ n ∧ vi = .int .i64 j ∧ OwnI w' w.heap.size v1 ((l.take j).map (·.1)) ∧ OwnI w' w.heap.size v2 ((l.take j).map (·.2)) ∧ Apart v1 v2 ∧ Below w.heap.size w w') (fun _ _ i _ => n - (RowKit.intOf i).toNat)
  case atStart => exact ⟨0, Nat.zero_le _, rfl, ownI_nil _ _, ownI_nil _ _, fun g hg => by (try simp [Value.ownBlock] at hg), Below.refl _ _⟩
  case round =>
    obtain ⟨j, hjn, rfl, h1, h2, hap, hb⟩ := hrel
    have hsz := hb.size
    by_cases hj : j < n
    · obtain ⟨g, off, rfl, hg, hc, hd⟩ := h.cells j hj
      have c0 := (hb.cell (p := ⟨g, off + j * 2, none⟩) hg).trans hc
      obtain ⟨g1, k1, w1, r1, o1, b1, kp1, l1, t1⟩ := appendI_lie h1 (n := j) (by simp; omega) hsz (l.getD j (0, 0)).1 (by omega) 119
      have h2' := h2.keep kp1 (fun g hg e => hap g e hg)
      have hb1 := hb.trans b1
      have c1 := (hb1.cell (p := ⟨g, off + j * 2 + 1, none⟩) hg).trans hd
      obtain ⟨g2, k2, w2, r2, o2, b2, kp2, l2, t2⟩ := appendI_lie h2' (n := j) (by simp; omega) hb1.size (l.getD j (0, 0)).2 (by omega) 119
      have hb2 := hb1.trans b2
      have hn1 : ∀ e, u4.ownBlock = some e → e ≠ g1 := fun e he eq => by
        subst eq
        rcases l1 with q | q
        · exact hap _ q he
        · have := (World.ownsRow.lt h2 _ he).2
          omega
      have o1' := o1.keep kp2 (fun e he e2 => hn1 e e2 (by simpa [Value.ownBlock] using he.symm))
      have hap2 : Apart (.slice (some ⟨g1, 0, none⟩) (j + 1) k1) (.slice (some ⟨g2, 0, none⟩) (j + 1) k2) := fun e he e2 => by
        have e1 : g1 = e := by simpa [Value.ownBlock] using he
        have e3 : g2 = e := by simpa [Value.ownBlock] using e2
        rcases l2 with q | q
        · exact hn1 _ q (by omega)
        · omega
      rw [← take_snoc_map l (·.1) j (by omega)] at o1'
      rw [← take_snoc_map l (·.2) j (by omega)] at o2
      clear l1 l2 hn1
      generalize hx : (l.getD j (0, 0)).1 = x at *
      generalize hy : (l.getD j (0, 0)).2 = y at *
      clear hc hd
      go_wp2_with (at_builtin; first | refine wpList_append_hr rfl _ _ 119 rfl _ _ rfl rfl r1 ?_ | refine wpList_append_hr rfl _ _ 119 rfl _ _ rfl rfl r2 ?_)
      go_roundw
      case rel => exact ⟨j + 1, by omega, by go_num, o1', o2, hap2, hb2⟩
      case measure => simp [RowKit.intOf]; omega
    · have e : j = n := by omega
      subst e
      have e1 : l.take j = l := by rw [← hln]; exact List.take_length
      rw [e1] at h1 h2
      clear e1
      obtain ⟨a1, c1, rfl⟩ := h1.shape
      obtain ⟨a2, c2, rfl⟩ := h2.shape
      simp only [List.length_map, hln] at h1 h2 ⊢
      have S1 := sorted_any _ h1.rng (by omega)
      clear hap h1
      go_wp2_with fail
      refine S1.mono ?_
      rintro e w2 ⟨b1, d1, y1, rfl, o1, hb2, P1⟩
      clear S1
      have h2' := h2.below hb2
      have hB2 := hb.trans (hb2.mono hsz)
      have S2 := sorted_any _ h2'.rng (by omega)
      clear h2 h2' hb2
      go_wp2_with fail
      refine S2.mono ?_
      rintro e w3 ⟨b2, d2, y2, rfl, o2, hb3, P2⟩
      clear S2
      have o1' := o1.below hb3
      have hB3 := hB2.trans (hb3.mono hB2.size)
      have hsz3 := hB3.size
      clear o1 hb3 hB2
      obtain ⟨b4, d4, w4, r4, o4, hb4⟩ := appendI (ownI_nil w3 w3.heap.size) (Nat.le_refl _) o1'.rng (by omega) 119
      obtain ⟨b5, d5, w5, r5, o5, hb5⟩ := appendI o4 hb4.size (o2.below hb4).rng (by omega) 119
      have hb35 := hb4.trans hb5
      simp only [Nat.zero_add] at r4 r5 o5
      have S3 := sorted_any _ o5.rng (by omega)
      go_wp2_with (at_builtin; first | refine wpList_append_hr rfl _ _ 119 rfl _ _ rfl rfl r4 ?_ | refine wpList_append_hr rfl _ _ 119 rfl _ _ rfl rfl r5 ?_)
      refine S3.mono ?_
      rintro e w6 ⟨b6, d6, y6, rfl, o6, hb6, P3⟩
      have hb36 := hb35.trans (hb6.mono hb35.size)
      have hB6 := hB3.trans (hb36.mono hB3.size)
      have q1 := (o1'.below hb36).rng
      have q2 := (o2.below hb36).rng
      have q6 := o6.rng
      have HP : Hid (y1.Perm (l.map (·.1)) ∧ y2.Perm (l.map (·.2)) ∧ y6.Perm (y1 ++ y2)) := ⟨P1.out.1, P2.out.1, P3.out.1⟩
      have HA1 : Hid (Asc y1) := P1.out.2
      have HA2 : Hid (Asc y2) := P2.out.2
      have HA6 : Hid (Asc y6) := P3.out.2
      clear S3 r4 r5 o4 o5 hb4 hb5 hb35 hb6 hb36 o1' o2 o6 P1 P2 P3 hB3 hsz3
      obtain ⟨w7, hmk, hob, hb7⟩ := makeB w6 (j + j) (by omega)
      have hB7 := hB6.trans (hb7.mono hB6.size)
      have q1' := q1.below hb7
      have q2' := q2.below hb7
      have q6' := q6.below hb7
      have hmk' := hmk
      simp only [Int.natCast_add] at hmk'
      have q1u := q1.under
      have q2u := q2.under
      have q6u := q6.under
      clear q1 q2 q6 hb7
      go_wp2_with fail
      go_loopw [8] (fun vi w' => ∃ (k : Nat) (bs : List Bool), k ≤ j + j ∧ vi = .int .i64 k ∧ OwnB w' w6.heap.size (.slice (some ⟨w6.heap.size, 0, none⟩) (j + j) (j + j)) bs ∧ Below w6.heap.size w7 w' ∧ Hid (bs.length = j + j ∧ ∀ i, i < k → bs.getD i false = decide (atMost y2 (y6.getD i 0) < atMost y1 (y6.getD i 0)))) (fun i _ => (j + j) - (RowKit.intOf i).toNat)
      case atStart => exact ⟨0, _, Nat.zero_le _, rfl, hob, Below.refl _ _, ⟨by simp, fun i hi => by omega⟩⟩
      case round =>
        obtain ⟨k, bs, hkn, rfl, hbs, hbl, HBS⟩ := hrel
        have hsl := hbl.size
        by_cases hk : k < j + j
        · obtain ⟨g6, off6, rfl, hg6, hc6⟩ := q6'.cells k hk
          have hl6 := q6u (by omega) g6 off6 rfl
          have c6 := (hbl.cell (p := ⟨g6, off6 + k, none⟩) hl6).trans hc6
          have hlb := hbs.rng.len
          obtain ⟨g7, off7, e7, hg7, hc7⟩ := hbs.rng.cells k hk
          cases e7
          simp only [Nat.zero_add] at hc7
          have hfz := ownB_frozen hbs k
          have HN := HBS.out
          generalize hx : y6.getD k 0 = x at *
          have U1 := refUpTo_any (q1'.belowB q1u hbl) HA1.out x
          have U2 := refUpTo_any (q2'.belowB q2u hbl) HA2.out x
          obtain ⟨m1, hm1⟩ : ∃ m1, atMost y1 x = m1 := ⟨_, rfl⟩
          obtain ⟨m2, hm2⟩ : ∃ m2, atMost y2 x = m2 := ⟨_, rfl⟩
          rw [hm1] at U1
          rw [hm2] at U2
          have HS : Hid ((bs.set k (decide (m2 < m1))).length = j + j ∧ ∀ i, i < k + 1 → (bs.set k (decide (m2 < m1))).getD i false = decide (atMost y2 (y6.getD i 0) < atMost y1 (y6.getD i 0))) := by
            refine ⟨by rw [List.length_set]; exact HN.1, fun i hi => ?_⟩
            rw [getD_set_lt (by omega)]
            by_cases e : i = k
            · subst e
              rw [if_pos rfl, hx, hm1, hm2]
            · rw [if_neg e]
              exact HN.2 i (by omega)
          have OS := ownB_set hbs k (decide (m2 < m1))
          have BS := hbl.setCell (p := ⟨w6.heap.size, k, none⟩) (Nat.le_refl _) (.bool (decide (m2 < m1)))
          clear hc6 HBS HN hbs q1' q2' q6' q1u q2u q6u hob hmk hmk' HP HA1 HA2 HA6 HL h hm1 hm2 hx hbl hB6 hB7 hb hsz
          go_wp2_with fail
          refine U1.mono ?_
          rintro e w' ⟨rfl, rfl⟩
          clear U1
          go_wp2_with fail
          refine U2.mono ?_
          rintro e w' ⟨rfl, rfl⟩
          clear U2
          go_wp2_with fail
          go_roundw
          case rel => exact ⟨k + 1, _, by omega, by go_num, OS, BS, HS⟩
          case measure => simp [RowKit.intOf]; omega
        · have e : k = j + j := by omega
          subst e
          have J1 := joined_any (q6'.belowB q6u hbl) HA6.out hbs.rng (by omega)
          go_wp2_with fail
          refine J1.mono ?_
          rintro e w8 ⟨o8, n8, c8, rfl, ho8, hb8⟩
          clear J1
          go_wp2_with fail
          go_ret
          refine ⟨o8, n8, c8, _, rfl, ho8.mono ?_, ?_, ?_⟩
          · have := hB7.size
            omega
          · have h6 := hB6.size
            have h7 := hB7.size
            exact hB7.trans ((hbl.mono h6).trans (hb8.mono (by omega)))
          · exact pl_of HL.out HP.out.1 HP.out.2.1 HP.out.2.2 HA6.out q6'.len HBS.out.2
end Go.Proofs.YtmdnmhdimfglaaaGreatDoor.Sp

namespace Go.Proofs.YtmdnmhdimfglaaaGreatDoor.Sp
open Go.RowKit Go.Lib
set_option maxRecDepth 100000
theorem lies_flat {l : List (Int × Int)} {f : Int × Int → List (Int × Int)} {q : Int} : Lies (l.flatMap f) q ↔ ∃ r ∈ l, Lies (f r) q := by
  constructor
  · rintro ⟨x, hx, h⟩
    obtain ⟨r, hr, hx⟩ := List.mem_flatMap.1 hx
    exact ⟨r, hr, x, hx, h⟩
  · rintro ⟨r, hr, x, hx, h⟩
    exact ⟨x, List.mem_flatMap.2 ⟨r, hr, hx⟩, h⟩
def thr (at_ n : Int) (r : Int × Int) : List (Int × Int) := (if r.1 < at_ then [(r.1, min r.2 at_)] else []) ++ (if at_ < r.2 then [(max r.1 at_ + n, r.2 + n)] else [])
theorem thr_length (at_ n : Int) (r : Int × Int) : (thr at_ n r).length ≤ 2 := by unfold thr; split <;> split <;> simp
theorem flat_len {f : Int × Int → List (Int × Int)} (h : ∀ r, (f r).length ≤ 2) (l : List (Int × Int)) : (l.flatMap f).length ≤ 2 * l.length := by
  induction l with
  | nil => simp
  | cons r t ih => have := h r; simp only [List.flatMap_cons, List.length_append, List.length_cons]; omega
theorem thr_lies {at_ n q : Int} {r : Int × Int} : Lies (thr at_ n r) q ↔ (r.1 ≤ q ∧ q < r.2 ∧ q < at_) ∨ (r.1 ≤ q - n ∧ q - n < r.2 ∧ at_ ≤ q - n) := by
  unfold thr
  rw [lies_append]
  constructor
  · rintro (h | h)
    · split at h
      · obtain ⟨x, hx, h1, h2⟩ := h
        simp only [List.mem_singleton] at hx
        subst hx
        simp only at h1 h2
        omega
      · exact absurd h (lies_nil _)
    · split at h
      · obtain ⟨x, hx, h1, h2⟩ := h
        simp only [List.mem_singleton] at hx
        subst hx
        simp only at h1 h2
        omega
      · exact absurd h (lies_nil _)
  · rintro (h | h)
    · left
      rw [if_pos (by omega)]
      exact ⟨_, List.mem_singleton.2 rfl, by simp only; omega, by simp only; omega⟩
    · right
      rw [if_pos (by omega)]
      exact ⟨_, List.mem_singleton.2 rfl, by simp only; omega, by simp only; omega⟩
theorem thrL_lies {l : List (Int × Int)} {at_ n q : Int} : Lies (l.flatMap (thr at_ n)) q ↔ (Lies l q ∧ q < at_) ∨ (Lies l (q - n) ∧ at_ ≤ q - n) := by
  rw [lies_flat]
  constructor
  · rintro ⟨r, hr, h⟩
    rcases thr_lies.1 h with h | h
    · exact .inl ⟨⟨r, hr, h.1, h.2.1⟩, h.2.2⟩
    · exact .inr ⟨⟨r, hr, h.1, h.2.1⟩, h.2.2⟩
  · rintro (⟨⟨r, hr, h1, h2⟩, h3⟩ | ⟨⟨r, hr, h1, h2⟩, h3⟩)
    · exact ⟨r, hr, thr_lies.2 (.inl ⟨h1, h2, h3⟩)⟩
    · exact ⟨r, hr, thr_lies.2 (.inr ⟨h1, h2, h3⟩)⟩
end Go.Proofs.YtmdnmhdimfglaaaGreatDoor.Sp
