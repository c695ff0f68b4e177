import Derived.Test.YtijpfbcippijoaaGreatDoorRqGI
import Derived.Test.YtijpfbcippijoaaGreatDoorRpV
namespace Go.Proofs.YtijpfbcippijoaaGreatDoor
open Go.RowKit Go.Lib
set_option maxRecDepth 100000
theorem take_right (X Y : List (Int × Int)) (m : Nat) (h : X.length ≤ m) : X ++ Y.take (m - X.length) = (X ++ Y).take m := by rw [List.take_append, List.take_of_length_le h]
theorem drop_right (X Y : List (Int × Int)) (m : Nat) (h : X.length ≤ m) : Y.drop (m - X.length) = (X ++ Y).drop m := by rw [List.drop_append, List.drop_eq_nil_of_le h]; rfl
structure Sp (R1 R2 : List (Int × Int)) (a b : Tr) : Prop where
  ra : rowOf a.lv = R1
  rb : rowOf b.lv = R2
  ca : a.Can
  cb : b.Can
  pa : Pcs a.lv
  pb : Pcs b.lv
theorem pcs_part {rs : List Int} {h : Int} (lo hi : Nat) (h2 : hi ≤ rs.length) (h32 : rs.length ≤ 32) : Pcs (partL rs h lo hi) := by
  unfold partL
  split
  · exact pcs_nil
  · rename_i hlt
    refine ⟨fun p hp => ?_, fun p hp => ?_, trivial⟩
    · simp at hp; subst hp
      intro e
      have := congrArg List.length e
      simp at this
      omega
    · simp at hp; subst hp
      simp
      omega
theorem rowOf_part (rs : List Int) (h : Int) (lo hi : Nat) : rowOf (partL rs h lo hi) = ((rs.take hi).drop lo).map fun c => (c, h) := by
  unfold partL
  split
  · rename_i e
    have : (rs.take hi).drop lo = [] := by rw [List.drop_eq_nil_iff, List.length_take]; omega
    rw [this]; rfl
  · simp [rowOf]
set_option maxHeartbeats 4000000 in
theorem split_fine : ∀ (N : Nat) {w : World} {t : Tr} {g : Nat}, t.sm.high ≤ (N : Int) → At w t g → t.Fine → Pcs t.lv → t.row.length ≤ 1048576 → ∀ m : Nat, ∀ n : Int, n = (m : Int) → m ≤ t.row.length →
    Calls Tryz.prog 57 #[.pointer (some ⟨g, 0, none⟩), .int .i64 n] w fun e w' => ∃ g1 g2 a b, e = .returned (.tuple #[.pointer (some ⟨g1, 0, none⟩), .pointer (some ⟨g2, 0, none⟩)]) ∧ At w' a g1 ∧ At w' b g2 ∧ Sp (t.row.take m) (t.row.drop m) a b ∧ Below w.heap.size w w' := by
  intro N
  induction N with
  | zero =>
    intro w t g hN hA hf
    have := hf.pos
    omega
  | succ N ih =>
    intro w t g hN hA hf hP hn m n hnm hm
    have IH : Hid (∀ {w : World} {t : Tr} {g : Nat}, t.sm.high ≤ (N : Int) → At w t g → t.Fine → Pcs t.lv → t.row.length ≤ 1048576 → ∀ m : Nat, ∀ n : Int, n = (m : Int) → m ≤ t.row.length → Calls Tryz.prog 57 #[.pointer (some ⟨g, 0, none⟩), .int .i64 n] w fun e w' => ∃ g1 g2 a b, e = .returned (.tuple #[.pointer (some ⟨g1, 0, none⟩), .pointer (some ⟨g2, 0, none⟩)]) ∧ At w' a g1 ∧ At w' b g2 ∧ Sp (t.row.take m) (t.row.drop m) a b ∧ Below w.heap.size w w') := ih
    clear ih
    have hsc := t.sm_cells
    by_cases hm0 : m = 0
    · subst hm0
      subst hnm
      have hsb : Sp (t.row.take 0) (t.row.drop 0) .nil t := ⟨rfl, by simp [Tr.row_lv], .inl rfl, .inr hf, pcs_nil, hP⟩
      clear hsc
      go_enter Tryz.func57, Tryz.ntmps57
      go_wp2_with fail
      go_ret2
      exact ⟨w.heap.size, g, .nil, t, rfl, at_nil w, hA.below ((Below.refl _ _).alloc (Nat.le_refl _) _), hsb, (Below.refl _ _).alloc (Nat.le_refl _) _⟩
    · by_cases hml : m = t.row.length
      · subst hml
        have hsb : Sp (t.row.take t.row.length) (t.row.drop t.row.length) t .nil := ⟨by simp [Tr.row_lv], by simp [Tr.lv, rowOf], .inr hf, .inl rfl, hP, pcs_nil⟩
        have hpos : 0 < t.sm.cells := by omega
        have hne : n = t.sm.cells := by omega
        subst hne
        have c0 := hA.cells
        clear hsc hnm
        go_enter Tryz.func57, Tryz.ntmps57
        go_wp2_with fail
        go_ret2
        exact ⟨g, w.heap.size, t, .nil, rfl, hA.below ((Below.refl _ _).alloc (Nat.le_refl _) _), at_nil w, hsb, (Below.refl _ _).alloc (Nat.le_refl _) _⟩
      · have hlt : n < t.sm.cells := by omega
        have hgt : 0 < n := by omega
        cases t with
        | nil => exact hf.wf.elim
        | leaf rs hid st =>
          have HIP := smIsPiece_any (Tr.leaf rs hid st).sm
          rw [Tr.sm_high_leaf] at HIP
          have h32 : rs.length ≤ 32 := hP.few (rs, hid) (by simp [Tr.lv])
          have hrl : (Tr.leaf rs hid st).row.length = rs.length := by simp [Tr.row]
          have hcs : (Tr.leaf rs hid st).sm.cells = ((rs.length : Nat) : Int) := rfl
          have hmr : m ≤ rs.length := by omega
          have hgl := hA.lt
          have HP1 : Hid (∀ W, Below w.heap.size w W → Calls Tryz.prog 91 #[.pointer (some ⟨g, 0, none⟩), .int .i64 0, .int .i64 n] W fun e w' => ∃ g' t, e = .returned (.pointer (some ⟨g', 0, none⟩)) ∧ At w' t g' ∧ PartOf rs hid 0 m t ∧ Below W.heap.size W w') := fun W hW => by
            rw [hnm]; exact part_any (hA.below hW) hf 0 m (by omega) (by omega) (by omega)
          have HP2 : Hid (∀ W, Below w.heap.size w W → Calls Tryz.prog 91 #[.pointer (some ⟨g, 0, none⟩), .int .i64 n, .int .i64 (Tr.leaf rs hid st).sm.cells] W fun e w' => ∃ g' t, e = .returned (.pointer (some ⟨g', 0, none⟩)) ∧ At w' t g' ∧ PartOf rs hid m rs.length t ∧ Below W.heap.size W w') := fun W hW => by
            rw [hnm, hcs]; exact part_any (hA.below hW) hf m rs.length (by omega) (by omega) (by omega)
          have HE : Hid (∀ x y, PartOf rs hid 0 m x → PartOf rs hid m rs.length y → Sp ((Tr.leaf rs hid st).row.take m) ((Tr.leaf rs hid st).row.drop m) x y) := fun x y hx hy => by
            refine ⟨?_, ?_, hx.can, hy.can, by rw [hx.lv]; exact pcs_part 0 m hmr h32, by rw [hy.lv]; exact pcs_part m _ (Nat.le_refl _) h32⟩
            · rw [hx.lv, rowOf_part]; simp [Tr.row, List.map_take]
            · rw [hy.lv, rowOf_part]; simp [Tr.row, List.map_drop]
          obtain ⟨c0, c1, c2, c3, c4, c5, c6, c7, c8, c9⟩ := hA.ten
          clear hcs hrl hsc hnm hf hP hA hn hm hml
          generalize Tr.leaf rs hid st = lf at *
          have hcur : Below w.heap.size w w := Below.refl _ _
          go_enter Tryz.func57, Tryz.ntmps57
          go_wp2_with fail
          refine (HIP _).mono ?_
          rintro e w1 ⟨rfl, hb1⟩
          have k0 := (hb1.cell (p := ⟨g, 0, none⟩) hgl).trans c0
          have hcur := hb1
          go_wp2_with fail
          go_region_held3 (fun W => W.cell? ⟨g, 0, none⟩ = some (.int .i64 lf.sm.cells)) (first | exact k0 | exact e0)
            (first
              | (go_at_call_of 91 (Value.int IntKind.i64 0); refine (HP1.out _ ?_).mono ?_; (first | exact hcur | exact hcur.drew); rintro e w2 ⟨g2, x, rfl, hx, hpx, hb2⟩; have hcur : Below w.heap.size w w2 := (by first | exact hcur.trans (hb2.mono hcur.size) | exact hcur.drew.trans (hb2.mono hcur.size)); have e0 := (hcur.cell (p := ⟨g, 0, none⟩) hgl).trans c0)
              | (go_at_call 91; refine (HP2.out _ ?_).mono ?_; (first | exact hcur | exact hcur.drew); rintro e w3 ⟨g3, y, rfl, hy, hpy, hb3⟩; have hx3 := hx.below (by first | exact hb3 | exact (Below.refl _ _).drew.trans hb3); have hcur : Below w.heap.size w w3 := (by first | exact hcur.trans (hb3.mono hcur.size) | exact hcur.drew.trans (hb3.mono hcur.size)); have e0 := (hcur.cell (p := ⟨g, 0, none⟩) hgl).trans c0))
          all_goals
            go_wp2_with fail
            go_ret2
            exact ⟨g2, g3, x, y, rfl, hx3, hy, HE.out x y hpx hpy, hcur⟩
        | node l0 r0 st =>
          have HIP := smIsPiece_any (Tr.node l0 r0 st).sm
          have hh2 := hf.wf.high_node
          rw [show decide ((Tr.node l0 r0 st).sm.high ≤ 1) = false by simp; omega] at HIP
          obtain ⟨c0, c1, c2, c3, c4, c5, c6, c7, c8, c9⟩ := hA.ten
          have hgl := hA.lt
          have HNM : Hid (n = (m : Int)) := hnm
          have HSC : Hid ((Tr.node l0 r0 st).sm.cells = ((Tr.node l0 r0 st).row.length : Int)) := hsc
          clear hnm hsc
          generalize Tr.node l0 r0 st = t at *
          go_enter Tryz.func57, Tryz.ntmps57
          go_wp2_with fail
          refine (HIP _).mono ?_
          rintro e w1 ⟨rfl, hb1⟩
          clear c1 c2 c3 c4 c5 c6 c7 c8 c9
          go_wp2_with fail
          refine (sides_p (hA.below hb1) hf hh2 (by omega)).mono ?_
          rintro e w2 ⟨gl, gr, l, r, rfl, hl, hr, hs, hb2⟩
          have hB2 := hb1.trans (hb2.mono hb1.size)
          have hlv := hs.lv
          have hlen := hs.len
          have q0 := hs.high
          have hrow : t.row = l.row ++ r.row := by rw [Tr.row_lv, Tr.row_lv, Tr.row_lv, hlv, rowOf_append]
          have hPl : Pcs l.lv := by rw [hlv] at hP; exact hP.left
          have hPr : Pcs r.lv := by rw [hlv] at hP; exact hP.right
          have d0 := hl.cells
          have hlc := l.sm_cells
          have hlb : 0 ≤ l.sm.cells ∧ l.sm.cells ≤ 2097152 := by omega
          have pl := hs.fl.pos
          have pr := hs.fr.pos
          have HR : Hid (t.row = l.row ++ r.row) := hrow
          have hnm := HNM.out
          by_cases hle : m ≤ l.row.length
          · have hcmp : n ≤ l.sm.cells := by omega
            have hl1 : l.row.length ≤ 1048576 := by omega
            have hlr : l.row.length + r.row.length ≤ 1048576 := by omega
            clear hlv hrow hlc hnm
            go_wp2_with fail
            refine (IH.out (by omega) hl hs.fl hPl hl1 m n HNM.out hle).mono ?_
            rintro e w3 ⟨g1, g2, a, b, rfl, ha, hb, hsb, hb3⟩
            have hB3 := hB2.trans (hb3.mono hB2.size)
            have hbl : b.row.length ≤ l.row.length := by rw [Tr.row_len b, hsb.rb, List.length_drop]; omega
            go_wp2_with fail
            refine (concat_any hb (hr.below hb3) hsb.cb (.inr hs.fr) hsb.pb hPr (by omega)).mono ?_
            rintro e w4 ⟨g4, t4, rfl, hA4, hl4, hc4, hb4⟩
            go_wp2_with fail
            go_ret2
            refine ⟨g1, g4, a, t4, rfl, ha.below hb4, hA4, ⟨?_, ?_, hsb.ca, hc4, hsb.pa, by rw [hl4]; exact hsb.pb.glue hPr⟩, hB3.trans (hb4.mono hB3.size)⟩
            · rw [hsb.ra, HR.out, List.take_append, show m - l.row.length = 0 by omega]; simp
            · rw [hl4, rowOf_glue, hsb.rb, HR.out, List.drop_append, show m - l.row.length = 0 by omega, ← Tr.row_lv]; simp
          · have hcmp : ¬ n ≤ l.sm.cells := by omega
            have hd : n - l.sm.cells = ((m - l.row.length : Nat) : Int) := by omega
            have HD : Hid (n - l.sm.cells = ((m - l.row.length : Nat) : Int)) := hd
            have hrn : r.row.length ≤ 1048576 := by omega
            have hlr : l.row.length + r.row.length ≤ 1048576 := by omega
            have hmr : m - l.row.length ≤ r.row.length := by omega
            have hnb : n ≤ 2097152 := by omega
            clear hlv hrow hlc hnm hd
            go_wp2_with fail
            refine (IH.out (by omega) hr hs.fr hPr hrn (m - l.row.length) _ HD.out hmr).mono ?_
            rintro e w3 ⟨g1, g2, a, b, rfl, ha, hb, hsb, hb3⟩
            have hB3 := hB2.trans (hb3.mono hB2.size)
            have hal : a.row.length ≤ r.row.length := by rw [Tr.row_len a, hsb.ra, List.length_take]; omega
            go_wp2_with fail
            refine (concat_any (hl.below hb3) ha (.inr hs.fl) hsb.ca hPl hsb.pa (by omega)).mono ?_
            rintro e w4 ⟨g4, t4, rfl, hA4, hl4, hc4, hb4⟩
            go_wp2_with fail
            go_ret2
            refine ⟨g4, g2, t4, b, rfl, hA4, hb.below hb4, ⟨?_, ?_, hc4, hsb.cb, by rw [hl4]; exact hPl.glue hsb.pa, hsb.pb⟩, hB3.trans (hb4.mono hB3.size)⟩
            · rw [hl4, rowOf_glue, hsb.ra, HR.out, ← Tr.row_lv]
              exact take_right l.row r.row m (by omega)
            · rw [hsb.rb, HR.out]
              exact drop_right l.row r.row m (by omega)
end Go.Proofs.YtijpfbcippijoaaGreatDoor

namespace Go.Proofs.YtijpfbcippijoaaGreatDoor
open Go.RowKit Go.Lib
set_option maxRecDepth 100000
set_option maxHeartbeats 400000 in
theorem split_nil {w : World} {g : Nat} (hA : At w .nil g) :
    Calls Tryz.prog 57 #[.pointer (some ⟨g, 0, none⟩), .int .i64 0] w fun e w' => ∃ g1 g2 a b, e = .returned (.tuple #[.pointer (some ⟨g1, 0, none⟩), .pointer (some ⟨g2, 0, none⟩)]) ∧ At w' a g1 ∧ At w' b g2 ∧ Sp (Tr.nil.row.take 0) (Tr.nil.row.drop 0) a b ∧ Below w.heap.size w w' := by
  have hsb : Sp (Tr.nil.row.take 0) (Tr.nil.row.drop 0) .nil .nil := ⟨rfl, rfl, .inl rfl, .inl rfl, pcs_nil, pcs_nil⟩
  go_enter Tryz.func57, Tryz.ntmps57
  go_wp2_with fail
  go_ret2
  exact ⟨w.heap.size, g, .nil, .nil, rfl, at_nil w, hA.below ((Below.refl _ _).alloc (Nat.le_refl _) _), hsb, (Below.refl _ _).alloc (Nat.le_refl _) _⟩
theorem split_any {w : World} {t : Tr} {g : Nat} (hA : At w t g) (hf : t.Can) (hP : Pcs t.lv) (hn : t.row.length ≤ 1048576) (m : Nat) (hm : m ≤ t.row.length) :
    Calls Tryz.prog 57 #[.pointer (some ⟨g, 0, none⟩), .int .i64 (m : Int)] w fun e w' => ∃ g1 g2 a b, e = .returned (.tuple #[.pointer (some ⟨g1, 0, none⟩), .pointer (some ⟨g2, 0, none⟩)]) ∧ At w' a g1 ∧ At w' b g2 ∧ Sp (t.row.take m) (t.row.drop m) a b ∧ Below w.heap.size w w' := by
  rcases hf with rfl | hf
  · obtain rfl : m = 0 := by simp [Tr.row] at hm; exact hm
    exact split_nil hA
  · exact split_fine t.sm.high.toNat (by have := hf.pos; omega) hA hf hP hn m _ rfl hm
theorem noFit_full (h : Int) : ∀ (F : List (List Int)) (cur : List Int), (∀ x ∈ F, x.length = 32) → cur ≠ [] → NoFit ((F ++ [cur]).map fun x => (x, h))
  | [], _, _, _ => trivial
  | [x], cur, hF, hne => by
    refine ⟨fun hf => ?_, trivial⟩
    have h1 := hF x (by simp)
    have h2 := hf.2
    have h3 := List.length_pos_iff.2 hne
    simp only at h2
    omega
  | x :: y :: t, cur, hF, hne => by
    have ih := noFit_full h (y :: t) cur (fun z hz => hF z (by simp at hz ⊢; exact .inr hz)) hne
    refine ⟨fun hf => ?_, ih⟩
    have h1 := hF x (by simp)
    have h2 := hF y (by simp)
    have h3 := hf.2
    simp only at h3
    omega
theorem Chunks.pcs {rs : List Int} {h : Int} {ts : List Tr} (hc : Chunks rs h ts) : Pcs (lvs ts) ∧ (∀ p ∈ lvs ts, p.2 = h) := by
  obtain ⟨F, cur, hF, hne, hfew, hfl, rfl⟩ := hc.cut
  rw [lvs_leaves]
  refine ⟨⟨fun p hp => ?_, fun p hp => ?_, noFit_full h F cur hF hne⟩, fun p hp => ?_⟩
  · obtain ⟨x, hx, rfl⟩ := List.mem_map.1 hp
    rcases List.mem_append.1 hx with hx | hx
    · intro e; have := hF x hx; simp only at e; rw [e] at this; simp at this
    · simp at hx; subst hx; exact hne
  · obtain ⟨x, hx, rfl⟩ := List.mem_map.1 hp
    rcases List.mem_append.1 hx with hx | hx
    · have := hF x hx; simp only; omega
    · simp at hx; subst hx; exact hfew
  · obtain ⟨x, hx, rfl⟩ := List.mem_map.1 hp
    rfl
theorem lvs_append (ts us : List Tr) : lvs (ts ++ us) = lvs ts ++ lvs us := by simp [lvs]
theorem Parts.pcs {L : List GRun} {ts : List Tr} (hp : Parts L ts) : (∀ (j : Nat) x y, L[j]? = some x → L[j + 1]? = some y → x.h ≠ y.h) → Pcs (lvs ts) ∧ ∀ p, (lvs ts).getLast? = some p → ∃ x, L.getLast? = some x ∧ p.2 = x.h := by
  induction hp with
  | nil => intro _; exact ⟨pcs_nil, fun p hp => by simp [lvs] at hp⟩
  | @snoc L ts us x h hc ih =>
    intro hap
    obtain ⟨i1, i2⟩ := ih (fun j y z hy hz => hap j y z (by rw [List.getElem?_append_left (by have := (List.getElem?_eq_some_iff.1 hy).1; omega)]; exact hy) (by rw [List.getElem?_append_left (by have := (List.getElem?_eq_some_iff.1 hz).1; omega)]; exact hz))
    obtain ⟨c1, c2⟩ := hc.pcs
    rw [lvs_append]
    refine ⟨i1.append c1 fun p q hp hq hf => ?_, fun p hp => ?_⟩
    · obtain ⟨y, hy, e⟩ := i2 p hp
      have e2 := c2 q (List.mem_of_mem_head? hq)
      rw [List.getLast?_eq_getElem?] at hy
      have hL : 0 < L.length := by
        have := (List.getElem?_eq_some_iff.1 hy).1; omega
      refine hap (L.length - 1) y x ?_ ?_ (by have := hf.1; omega)
      · rw [List.getElem?_append_left (by omega)]; exact hy
      · rw [List.getElem?_append_right (by omega), show L.length - 1 + 1 - L.length = 0 by omega]; rfl
    · have hne : lvs us ≠ [] := by
        obtain ⟨F, cur, _, _, _, _, rfl⟩ := hc.cut
        rw [lvs_leaves]; simp
      rcases List.eq_nil_or_concat (lvs us) with e | ⟨k, z, e⟩
      · exact absurd e hne
      · rw [List.concat_eq_append] at e
        rw [e, ← List.append_assoc] at hp
        simp at hp
        subst hp
        exact ⟨x, by simp, c2 z (by rw [e]; simp)⟩
structure Tr.Rp (t : Tr) : Prop where
  can : t.Can
  pcs : Pcs t.lv
  lo : ∀ c ∈ t.row, 0 ≤ c.2
  hi : ∀ c ∈ t.row, c.2 ≤ 1048576
  len : t.row.length ≤ 1048576
theorem Tr.Rp.good {t : Tr} (h : t.Rp) : t.Good := ⟨h.can.ok, h.can.bd, h.lo, h.len⟩
theorem Built.can {ts : List Tr} {t : Tr} (h : Built ts t) : t.Can := by
  rcases h.ok with ⟨_, h1⟩ | ⟨_, h1⟩
  · exact .inl h1
  · exact .inr ⟨h1, h.bd, h.avl⟩
theorem from_rp {L : List GRun} {ts : List Tr} {t : Tr} (hL : FromOk L) (hb : Built ts t) (hp : Parts L ts) : t.row = cellsOf L ∧ t.Rp := by
  obtain ⟨hr, hg⟩ := from_good hL hb hp
  refine ⟨hr, hb.can, by rw [hb.lv]; exact (hp.pcs hL.apart).1, hg.nonneg, fun c hc => ?_, hg.len⟩
  rw [hr] at hc
  obtain ⟨x, hx, hc⟩ := List.mem_flatMap.1 hc
  obtain ⟨r, _, rfl⟩ := List.mem_map.1 hc
  exact hL.hi x hx
structure Upd (q : Nat) (w w' : World) : Prop where
  os : w'.os = w.os
  tape : w'.tape = w.tape
  output : w'.output = w.output
  size : w.heap.size ≤ w'.heap.size
  block : ∀ k, k < w.heap.size → k ≠ q → w'.heap[k]? = w.heap[k]?
theorem Upd.refl (q : Nat) (w : World) : Upd q w w := ⟨rfl, rfl, rfl, Nat.le_refl _, fun _ _ _ => rfl⟩
theorem Upd.trans {q : Nat} {a b c : World} (h : Upd q a b) (k : Upd q b c) : Upd q a c := ⟨k.os.trans h.os, k.tape.trans h.tape, k.output.trans h.output, Nat.le_trans h.size k.size, fun i hi hne => (k.block i (by have := h.size; omega) hne).trans (h.block i hi hne)⟩
theorem Upd.ofBelow {q : Nat} {a b : World} (h : Below a.heap.size a b) : Upd q a b := ⟨h.os, h.tape, h.output, h.size, fun i hi _ => h.block i hi⟩
theorem Upd.below {q B : Nat} {a b c : World} (h : Below B a b) (k : Upd q b c) (hq : B ≤ q) (hB : B ≤ b.heap.size) : Below B a c := ⟨k.os.trans h.os, k.tape.trans h.tape, k.output.trans h.output, Nat.le_trans h.size k.size, fun i hi => (k.block i (by omega) (by omega)).trans (h.block i hi)⟩
theorem upd_set {w : World} (q : Nat) (u : Value) : Upd q w (w.setCell ⟨q, 0, none⟩ u) := ⟨rfl, rfl, rfl, by simp [World.setCell], fun i _ hne => Below.heap_setCell _ _ _ _ hne⟩
theorem At.notBox {w : World} {q : Nat} {p : Option Addr} (hq : w.heap[q]? = some (.cells #[.pointer p] 73)) : ∀ {t : Tr} {g : Nat}, At w t g → AtD w (fun b => b ≠ q) t g
  | .nil, g, h => ⟨fun e => by subst e; unfold At NodeAt at h; rw [hq] at h; simp at h, h⟩
  | .leaf rs _ _, g, ⟨a, cap, h1, h2⟩ => ⟨fun e => by subst e; unfold NodeAt at h1; rw [hq] at h1; simp at h1, a, cap, h1, h2, fun h0 gr off e e2 => by
      subst e2
      obtain ⟨g', off', e', hg, hc⟩ := h2.rw_.cells h0
      rw [e] at e'
      cases e'
      have hx : rs[0]? = some rs[0] := List.getElem?_eq_getElem h0
      have := hc 0 _ hx 0 _ rfl
      simp only [World.cell?, hq] at this
      match off, this with
      | 0, this => simp at this
      | k + 1, this => simp at this⟩
  | .node _ _ _, g, ⟨gl, gr, h1, h2, h3⟩ => ⟨fun e => by subst e; unfold NodeAt at h1; rw [hq] at h1; simp at h1, gl, gr, h1, At.notBox hq h2, At.notBox hq h3⟩
theorem ropeAt_set {w : World} {q g : Nat} {p : Option Addr} {t : Tr} (hq : w.heap[q]? = some (.cells #[.pointer p] 73)) (hA : At w t g) : RopeAt (w.setCell ⟨q, 0, none⟩ (.pointer (some ⟨g, 0, none⟩))) q t := by
  refine ⟨g, ?_, ?_⟩
  · exact (heap_setCell_same w q 0 _ _ _ hq).trans (by simp)
  · exact ((hA.notBox hq).keep (fun b hb => Below.heap_setCell _ _ _ _ hb) (by simp [World.setCell])).at
set_option maxHeartbeats 2000000 in
theorem insert_any {w : World} {q : Nat} {t : Tr} (h : RopeAt w q t) (hR : t.Rp) (m : Nat) (hm : m ≤ t.row.length) {s : ByteArray} {rs : List Int} (ht : IsText s rs) (hne : rs ≠ []) (hid : Int) (h0 : 0 ≤ hid) (h1 : hid ≤ 1048576) (hn : t.row.length + rs.length ≤ 1048576) (hBar : Bar w) :
    Calls Tryz.prog 25 #[.pointer (some ⟨q, 0, none⟩), .int .i64 (m : Int), .string s, .int .i64 hid] w fun e w' => e = .returned (.int .i64 0) ∧ (∃ t', RopeAt w' q t' ∧ t'.Rp ∧ t'.row = t.row.take m ++ (rs.map fun c => (c, hid)) ++ t.row.drop m) ∧ Upd q w w' := by
  have hlen := hR.len
  have hpos := List.length_pos_iff.2 hne
  have HT : Hid (∀ W, Below w.heap.size w W → Calls Tryz.prog 24 #[.pointer (some ⟨q, 0, none⟩)] W fun e w' => e = .returned (.int .i64 (t.row.length : Int)) ∧ w' = W) := fun W hW => ropeTotal_any (h.below hW)
  have HC := checkCells_any ht (by omega) hid h0 h1 w hBar
  obtain ⟨g, hq, hA⟩ := h
  have hql := (Array.getElem?_eq_some_iff.1 hq).1
  have c0 : w.cell? ⟨q, 0, none⟩ = some (.pointer (some ⟨g, 0, none⟩)) := by simp [World.cell?, hq]
  have HQ : Hid (w.heap[q]? = some (.cells #[.pointer (some ⟨g, 0, none⟩)] 73)) := hq
  clear hq
  have z0 : ((rs.length : Int) == 0) = false := by rw [beq_eq_false_iff_ne]; omega
  have HE : Hid (t.row.length = t.row.length) := rfl
  generalize hL : t.row.length = L at *
  have HL : Hid (t.row.length = L) := hL
  clear hL HE
  go_enter Tryz.func25, Tryz.ntmps25
  go_wp2_with fail
  refine (HT.out _ (Below.refl _ _)).mono ?_
  rintro e w1 ⟨rfl, rfl⟩
  go_wp2_with fail
  refine HC.mono ?_
  rintro e w2 ⟨rfl, hb2⟩
  go_wp2_with fail
  refine (HT.out _ hb2).mono ?_
  rintro e w3 ⟨rfl, rfl⟩
  have c2 := (hb2.cell (p := ⟨q, 0, none⟩) hql).trans c0
  go_wp2_with fail
  refine (split_any (hA.below hb2) hR.can hR.pcs (by rw [HL.out]; omega) m (by rw [HL.out]; omega)).mono ?_
  rintro e w4 ⟨g1, g2, a, b, rfl, ha, hb, hs, hb4⟩
  have hB4 := hb2.trans (hb4.mono hb2.size)
  clear c0 c2 HC
  go_wp2_with fail
  refine (cut_any ht hne hid (by omega) _).mono ?_
  rintro e w5 ⟨v, gs, ts, rfl, hO, hT, hCh, hb5⟩
  have hB5 := hB4.trans (hb5.mono hB4.size)
  obtain ⟨av, cv, rfl⟩ := hO.shape
  have hul := hCh.len
  have hgl := hT.1
  go_wp2_with fail
  refine (grown_len gs.length gs.length (Nat.le_refl _) (hO.rw_ layG) hT.ats (hCh.each ⟨h0, h1⟩) (by omega) (by rw [hCh.row, List.length_map]; omega)).mono ?_
  rintro e w6 ⟨g6, t6, rfl, hA6, hBt, hb6⟩
  have hB6 := hB5.trans (hb6.mono hB5.size)
  have h46 := hb5.trans (hb6.mono hb5.size)
  have r6 : rowOf t6.lv = rs.map fun c => (c, hid) := by rw [hBt.lv, hCh.row]
  have l6 : t6.row.length = rs.length := by rw [Tr.row_len, r6, List.length_map]
  have la : a.row.length = m := by rw [Tr.row_len, hs.ra, List.length_take]; have := HL.out; omega
  have lb : b.row.length = L - m := by rw [Tr.row_len, hs.rb, List.length_drop]; have := HL.out; omega
  have p6 : Pcs t6.lv := by rw [hBt.lv]; exact hCh.pcs.1
  unfold ptr
  go_wp2_with fail
  refine (concat_any (ha.below h46) hA6 hs.ca hBt.can hs.pa p6 (by omega)).mono ?_
  rintro e w7 ⟨g7, t7, rfl, hA7, hl7, hc7, hb7⟩
  have hB7 := hB6.trans (hb7.mono hB6.size)
  have p7 : Pcs t7.lv := by rw [hl7]; exact hs.pa.glue p6
  have r7 : rowOf t7.lv = t.row.take m ++ rs.map fun c => (c, hid) := by rw [hl7, rowOf_glue, hs.ra, r6]
  have l7 : t7.row.length = m + rs.length := by rw [Tr.row_len, r7, List.length_append, List.length_take, List.length_map]; have := HL.out; omega
  have hb7' := hb.below (h46.trans (hb7.mono h46.size))
  clear la l6 h46 ha hA6 hb hT hO
  go_wp2_with fail
  refine (concat_any hA7 hb7' hc7 hs.cb p7 hs.pb (by omega)).mono ?_
  rintro e w8 ⟨g8, t8, rfl, hA8, hl8, hc8, hb8⟩
  have hB8 := hB7.trans (hb8.mono hB7.size)
  have r8 : t8.row = t.row.take m ++ (rs.map fun c => (c, hid)) ++ t.row.drop m := by rw [Tr.row_lv, hl8, rowOf_glue, r7, hs.rb]
  have hrp : t8.Rp := by
    refine ⟨hc8, by rw [hl8]; exact p7.glue hs.pb, fun c hc => ?_, fun c hc => ?_, ?_⟩
    · rw [r8] at hc
      rcases List.mem_append.1 hc with hc | hc
      · rcases List.mem_append.1 hc with hc | hc
        · exact hR.lo c (List.mem_of_mem_take hc)
        · obtain ⟨x, _, rfl⟩ := List.mem_map.1 hc; exact h0
      · exact hR.lo c (List.mem_of_mem_drop hc)
    · rw [r8] at hc
      rcases List.mem_append.1 hc with hc | hc
      · rcases List.mem_append.1 hc with hc | hc
        · exact hR.hi c (List.mem_of_mem_take hc)
        · obtain ⟨x, _, rfl⟩ := List.mem_map.1 hc; exact h1
      · exact hR.hi c (List.mem_of_mem_drop hc)
    · rw [r8]; simp only [List.length_append, List.length_take, List.length_drop, List.length_map]; have := HL.out; omega
  have hq8 : w8.heap[q]? = some (.cells #[.pointer (some ⟨g, 0, none⟩)] 73) := (hB8.block q hql).trans HQ.out
  have c8 : w8.cell? ⟨q, 0, none⟩ = some (.pointer (some ⟨g, 0, none⟩)) := by simp [World.cell?, hq8]
  have f8 : w8.frozen? ⟨q, 0, none⟩ = false := frozen_of_row w8 q 0 _ _ hq8
  have HF : Hid (RopeAt (w8.setCell ⟨q, 0, none⟩ (.pointer (some ⟨g8, 0, none⟩))) q t8) := ropeAt_set hq8 hA8
  have HR8 : Hid (t8.row = t.row.take m ++ (rs.map fun c => (c, hid)) ++ t.row.drop m) := r8
  clear r8 hq8 r7 r6 l7 lb hl8 hl7
  go_wp2_with fail
  go_ret
  exact ⟨rfl, ⟨t8, HF.out, hrp, HR8.out⟩, (Upd.ofBelow hB8).trans (upd_set q _)⟩
end Go.Proofs.YtijpfbcippijoaaGreatDoor
