import Derived.Test.YtokclnjaglklhaaDoorRpT
namespace Go.Proofs.YtokclnjaglklhaaDoor
open Go.RowKit Go.Lib
set_option maxRecDepth 100000

set_option maxHeartbeats 1000000 in
theorem checkCells_any {s : ByteArray} {rs : List Int} (ht : IsText s rs) (hlen : rs.length ≤ 1048576) (hid : Int) (h0 : 0 ≤ hid) (h1 : hid ≤ 1048576) (w : World) (hB : Bar w) :
    Calls Tryd.prog 12 #[.string s, .int .i64 hid] w fun e w' => e = .returned (.tuple #[.int .i64 (rs.length : Int), .int .i64 0]) ∧ Below w.heap.size w w' := by
  have hsm := ht.small
  have HC := check_bar (by omega) ht.check w hB
  go_enter Tryd.func12, Tryd.ntmps12
  go_wp2_with fail
  refine HC.mono ?_
  rintro e w1 ⟨rfl, hb1⟩
  go_wp2_with fail
  go_ret2
  exact ⟨rfl, hb1⟩
/-- Runs that From takes. -/
structure FromOk (L : List GRun) : Prop where
  text : ∀ x ∈ L, IsText x.s x.rs
  some_ : ∀ x ∈ L, x.rs ≠ []
  lo : ∀ x ∈ L, 0 ≤ x.h
  hi : ∀ x ∈ L, x.h ≤ 1048576
  apart : ∀ (j : Nat) x y, L[j]? = some x → L[j + 1]? = some y → x.h ≠ y.h
  few : (cellsOf L).length ≤ 1048576
theorem sizeNe (s : ByteArray) (h : 0 < s.size) : (s.toList == []) = false := by
  rw [beq_eq_false_iff_ne]
  intro e
  have h2 : s.toList = s.data.toList := ByteArray.toList_eq _
  rw [h2] at e
  have h3 := size_data s
  rw [e, List.length_nil] at h3
  omega
theorem isText_ne {s : ByteArray} {rs : List Int} (h : IsText s rs) (hne : rs ≠ []) : (s.toList == []) = false := by
  refine sizeNe s ?_
  have h1 := h.big
  have h2 := List.length_pos_iff.2 hne
  omega
/-- The pieces of runs. -/
inductive Parts : List GRun → List Tr → Prop
  | nil : Parts [] []
  | snoc {L : List GRun} {ts us : List Tr} {x : GRun} (h : Parts L ts) (hc : Chunks x.rs x.h us) : Parts (L ++ [x]) (ts ++ us)
theorem cellsOf_append (L M : List GRun) : cellsOf (L ++ M) = cellsOf L ++ cellsOf M := by simp [cellsOf]
theorem Parts.row {L : List GRun} {ts : List Tr} (h : Parts L ts) : rowOf (lvs ts) = cellsOf L := by
  induction h with
  | nil => rfl
  | snoc h hc ih =>
    rw [rowOf_lvs_append, ih, hc.row, cellsOf_append]
    simp [cellsOf]
theorem Parts.each {L : List GRun} {ts : List Tr} (h : Parts L ts) (lo : ∀ x ∈ L, 0 ≤ x.h) (hi : ∀ x ∈ L, x.h ≤ 1048576) : ∀ t ∈ ts, t.isLeaf ∧ t.Bd := by
  induction h with
  | nil => intro t ht; cases ht
  | snoc h hc ih =>
    intro t ht
    rcases List.mem_append.1 ht with ht | ht
    · exact ih (fun x hx => lo x (List.mem_append_left _ hx)) (fun x hx => hi x (List.mem_append_left _ hx)) t ht
    · exact hc.each ⟨lo _ (by simp), hi _ (by simp)⟩ t ht
theorem Parts.len {L : List GRun} {ts : List Tr} (h : Parts L ts) : ts.length ≤ (cellsOf L).length := by
  induction h with
  | nil => simp
  | snoc h hc ih =>
    have := hc.len.1
    rw [List.length_append, cellsOf_append, List.length_append]
    simp only [cellsOf, List.flatMap_cons, List.flatMap_nil, List.append_nil, List.length_map] at ih ⊢
    omega
theorem take_snoc_get {α : Type} (L : List α) (i : Nat) (x : α) (hx : L[i]? = some x) : L.take (i + 1) = L.take i ++ [x] := by
  obtain ⟨hi, rfl⟩ := List.getElem?_eq_some_iff.1 hx
  exact List.take_succ_eq_append_getElem hi
/-- The pieces of a text are laid behind the others. -/
theorem flushMany {B : Nat} {W1 w3 w4 : World} {vp v : Value} {gs hs : List Nat} {ts us : List Tr} {g4 : Nat} (hP : OwnF ptrV 1 53 W1 B vp gs) (hB : B ≤ W1.heap.size)
    (hT : AtsD W1 (fun b => B ≤ b ∧ b < W1.heap.size ∧ vp.ownBlock ≠ some b) ts gs) (hU : AtsD w3 (fun b => W1.heap.size < b ∧ v.ownBlock ≠ some b) us hs) (hb3 : Below W1.heap.size W1 w3)
    (hk4 : Keeps w3 w4 vp) (hs4 : w3.heap.size ≤ w4.heap.size) (hat : vp.ownBlock = some g4 ∨ g4 = w3.heap.size) :
    AtsD w4 (fun b => B ≤ b ∧ b < w4.heap.size ∧ some g4 ≠ some b) (ts ++ us) (gs ++ hs) := by
  have hs3 := hb3.size
  refine AtsD.append ?_ ?_
  · have h3 := hT.keep (w' := w3) (fun b hb => hb3.block b (by omega)) hs3
    have h4 := h3.keep (w' := w4) (fun b hb => hk4 b (by omega) hb.2.2) hs4
    refine h4.mono fun b hb => ⟨hb.1, by omega, fun e => ?_⟩
    rcases hat with h | h
    · exact hb.2.2 (by rw [h, e])
    · simp at e; omega
  · refine ⟨hU.1, fun j t g h1 h2 => ?_⟩
    have h3 := (hU.2 j t g h1 h2).and_lt
    have key : ∀ b, W1.heap.size < b → vp.ownBlock ≠ some b := fun b hb e => by have := hP.lt e; omega
    have h4 := h3.keep (w' := w4) (fun b hb => hk4 b hb.2 (key b hb.1.1)) hs4
    refine h4.mono fun b hb => ⟨by omega, by omega, fun e => ?_⟩
    rcases hat with h | h
    · exact key b hb.1.1 (by rw [h, e])
    · simp at e; omega
set_option maxHeartbeats 4000000 in
theorem from_any {w : World} {a : Option Addr} {n cap : Nat} {L : List GRun} (h : Rw runV 2 w a n cap L) (hL : FromOk L) (hBar : Bar w) :
    Calls Tryd.prog 7 #[.slice a n cap] w fun e w' => ∃ q t ts, e = .returned (.tuple #[ptr q, .int .i64 0]) ∧ RopeAt w' q t ∧ Built ts t ∧ Parts L ts ∧ Below w.heap.size w w' ∧ w.heap.size ≤ q := by
  have hlen := h.len
  have hroom := h.room
  have hn : n ≤ 9223372036854775807 := by simp only [maxLen] at hroom; omega
  have HL : Hid (FromOk L) := hL
  have hfew := hL.few
  have hcp : Hid (∀ j, j < n → ∃ g off x, a = some ⟨g, off, none⟩ ∧ g < w.heap.size ∧ L[j]? = some x ∧ ∀ W, Below w.heap.size w W → W.cell? ⟨g, off + j * 2, none⟩ = some (.string x.s) ∧ W.cell? ⟨g, off + j * 2 + 1, none⟩ = some (.int .i64 x.h)) := fun j hj => by
    obtain ⟨g, off, x, ha, hg, hx, hc⟩ := h.at j hj
    exact ⟨g, off, x, ha, hg, hx, fun W hW => ⟨(hW.cell (p := ⟨g, off + j * 2 + 0, none⟩) hg).trans (hc 0 _ rfl), (hW.cell (p := ⟨g, off + j * 2 + 1, none⟩) hg).trans (hc 1 _ rfl)⟩⟩
  clear hL
  unfold ptr
  go_enter Tryd.func7, Tryd.ntmps7
  go_wp2_with fail
  go_loopw [4, 14] (fun vt vi w' => ∃ i : Nat, i ≤ n ∧ vi = .int .i64 (i : Int) ∧ vt = .int .i64 ((cellsOf (L.take i)).length : Int) ∧ Below w.heap.size w w') (fun _ i _ => n - (intOf i).toNat)
  case atStart => exact ⟨0, Nat.zero_le _, rfl, rfl, Below.refl _ _⟩
  case round =>
    obtain ⟨i, hi, rfl, rfl, hb⟩ := hrel
    by_cases hin : i < n
    · obtain ⟨g, off, x, rfl, hg, hx, hc⟩ := hcp.out i hin
      obtain ⟨c0, c1⟩ := hc wr hb
      have hmem := List.mem_of_getElem? hx
      have htx := HL.out.text x hmem
      have hxne := HL.out.some_ x hmem
      have hlo := HL.out.lo x hmem
      have hhi := HL.out.hi x hmem
      have hse := isText_ne htx hxne
      have hle := cellsOf_le L i x hx
      have HS : Hid ((cellsOf (L.take (i + 1))).length = (cellsOf (L.take i)).length + x.rs.length) := by
        show _ = _
        rw [cellsOf_take_succ L i x hx, List.length_append, List.length_map]
      have HK : Hid (∀ W, Below w.heap.size w W → Calls Tryd.prog 12 #[.string x.s, .int .i64 x.h] W fun e w' => e = .returned (.tuple #[.int .i64 (x.rs.length : Int), .int .i64 0]) ∧ Below W.heap.size W w') := fun W hW => checkCells_any htx (by omega) x.h hlo hhi W (hBar.below hW)
      generalize htot : (cellsOf (L.take i)).length = tot at *
      clear htot
      have hsz := hb.size
      by_cases hi0 : i = 0
      · subst hi0
        simp only [Nat.zero_mul, Nat.add_zero] at c0 c1
        clear hc hx hmem htx hxne
        go_wp2_with fail
        go_quiet (fail)
        go_wp2_with fail
        refine (HK.out _ (below_drewN (hb.alloc hsz _) _)).mono ?_
        rintro e w1 ⟨rfl, hb1⟩
        have hB1 : Below w.heap.size w w1 := (below_drewN (hb.alloc hsz _) _).trans (hb1.mono (by simp; omega))
        go_wp2_with fail
        go_roundw
        case rel => exact ⟨1, by omega, rfl, by rw [HS.out]; go_num, hB1⟩
        case measure => simp [intOf]; omega
      · obtain ⟨i, rfl⟩ : ∃ i', i = i' + 1 := ⟨i - 1, by omega⟩
        obtain ⟨g', off', y, hga, _, hy, hcy⟩ := hcp.out i (by omega)
        cases hga
        have d1 := (hcy wr hb).2
        have hne : (x.h == y.h) = false := by rw [beq_eq_false_iff_ne]; exact fun e => HL.out.apart i y x hy hx e.symm
        clear hc hx hmem htx hxne hcy hi0 hy
        generalize y.h = yh at *
        have d2 := cell_al d1 (.cells #[.string x.s, .int .i64 x.h] 47)
        have hgw : g < wr.heap.size := by omega
        clear d1
        go_wp2_with fail
        go_quiet (fail)
        go_wp2_with fail
        refine (HK.out _ (below_drewN (hb.alloc hsz _) _)).mono ?_
        rintro e w1 ⟨rfl, hb1⟩
        have hB1 : Below w.heap.size w w1 := (below_drewN (hb.alloc hsz _) _).trans (hb1.mono (by simp; omega))
        go_wp2_with fail
        go_roundw
        case rel => exact ⟨i + 1 + 1, by omega, by go_num, by rw [HS.out]; go_num, hB1⟩
        case measure => simp [intOf]; omega
    · obtain rfl : i = n := by omega
      rw [show L.take i = L from List.take_of_length_le (by omega)]
      generalize htot : (cellsOf L).length = tot at *
      clear htot
      have hb0 := hb
      clear hb
      go_wp2_with fail
      go_loopw [9, 56] (fun vp vi w' => ∃ j gs ts, j ≤ i ∧ vi = .int .i64 ((j : Nat) : Int) ∧ OwnF ptrV 1 53 w' w.heap.size vp gs ∧ AtsD w' (fun b => w.heap.size ≤ b ∧ b < w'.heap.size ∧ vp.ownBlock ≠ some b) ts gs ∧ Parts (L.take j) ts ∧ Below w.heap.size w w') (fun _ j _ => i - (intOf j).toNat)
      case atStart => exact ⟨0, [], [], Nat.zero_le _, rfl, ownF_nil _ _, atsD_nil _ _, Parts.nil, hb0⟩
      case round =>
        obtain ⟨j, gs, ts, hj, rfl, hP, hT, hPa, hb⟩ := hrel
        have hsz := hb.size
        by_cases hjn : j < i
        · obtain ⟨g, off, x, rfl, hg, hx, hc⟩ := hcp.out j hjn
          obtain ⟨c0, c1⟩ := hc wr hb
          have hmem := List.mem_of_getElem? hx
          have htx := HL.out.text x hmem
          have hxne := HL.out.some_ x hmem
          have hle := cellsOf_le L j x hx
          have hfew2 := HL.out.few
          have hPl := hPa.len
          have hgl : gs.length ≤ (cellsOf (L.take j)).length := by have := hT.1; omega
          have HS : Hid (∀ us, Chunks x.rs x.h us → Parts (L.take (j + 1)) (ts ++ us)) := fun us hu => by
            rw [take_snoc_get L j x hx]; exact Parts.snoc hPa hu
          have HCut : Hid (∀ W, Calls Tryd.prog 13 #[.string x.s, .int .i64 x.h] W fun e w' => ∃ v gs ts, e = .returned v ∧ OwnF ptrV 1 53 w' W.heap.size v gs ∧ AtsD w' (fun b => W.heap.size < b ∧ v.ownBlock ≠ some b) ts gs ∧ Chunks x.rs x.h ts ∧ Below W.heap.size W w') := fun W => cut_any htx hxne x.h (by omega) W
          have hxl : x.rs.length ≤ 1048576 := by omega
          have hgl2 : gs.length ≤ 1048576 := by omega
          clear hc hmem htx hxne hx hle hPl hgl hPa hfew2
          go_wp2_with fail
          refine (HCut.out _).mono ?_
          rintro e w3 ⟨v, hs, us, rfl, hO3, hU3, hCh, hb3⟩
          have hul := hCh.len
          have hhl := hU3.1
          obtain ⟨av, cv, rfl⟩ := hO3.shape
          have hA1 : Below wr.heap.size wr (wr.alloc (.cells #[.string x.s, .int .i64 x.h] 47)) := (Below.refl _ _).alloc (Nat.le_refl _) _
          have hP1 := hP.below hA1
          have hT1 : AtsD (wr.alloc (.cells #[.string x.s, .int .i64 x.h] 47)) (fun b => w.heap.size ≤ b ∧ b < (wr.alloc (.cells #[.string x.s, .int .i64 x.h] 47)).heap.size ∧ u9.ownBlock ≠ some b) ts gs := (hT.keep (fun b hb => hA1.block b hb.2.1) hA1.size).mono fun b hb => ⟨hb.1, by have := hA1.size; omega, hb.2.2⟩
          obtain ⟨g4, cap4, w4, hr4, ho4, hb4, hkp4, hat4⟩ := appendF kindG layG (hP1.below hb3) (by have := hb3.size; simp at this; omega) (hO3.rw_ layG) (by omega) (by omega) (by omega) 51
          have hT4 := flushMany hP1 (by simp; omega) hT1 hU3 hb3 hkp4 hb4.size hat4
          have hB4 : Below w.heap.size w w4 := ((hb.alloc hsz _).trans (hb3.mono (by simp; omega))).trans hb4
          have HT4 : Hid (AtsD w4 (fun b => w.heap.size ≤ b ∧ b < w4.heap.size ∧ some g4 ≠ some b) (ts ++ us) (gs ++ hs)) := hT4
          clear hT4 hT1 hP1 hT hP hU3 hO3 hkp4
          go_wp2_with (at_builtin; refine wpList_append_hr rfl _ _ 51 rfl _ _ rfl rfl hr4 ?_)
          go_roundw
          case rel => exact ⟨j + 1, _, _, by omega, by go_num, ho4, HT4.out, HS.out _ hCh, hB4⟩
          case measure => simp [intOf]; omega
        · obtain rfl : j = i := by omega
          rw [show L.take j = L from List.take_of_length_le (by omega)] at hPa
          have hPl := hPa.len
          obtain ⟨av, cv, rfl⟩ := hP.shape
          have hgl : gs.length ≤ 1048576 := by have := hT.1; have := HL.out.few; omega
          have HG := grown_len gs.length gs.length (Nat.le_refl _) (hP.rw_ layG) hT.ats (hPa.each HL.out.lo HL.out.hi) hgl (by rw [hPa.row]; exact HL.out.few)
          clear hP hT
          go_wp2_with fail
          refine HG.mono ?_
          rintro e w3 ⟨g3, t, rfl, hA3, hBt, hb3⟩
          unfold ptr
          have hB3 : Below w.heap.size w w3 := hb.trans (hb3.mono hsz)
          have hAl : Below w3.heap.size w3 (w3.alloc (.cells #[.pointer (some ⟨g3, 0, none⟩)] 56)) := (Below.refl _ _).alloc (Nat.le_refl _) _
          go_wp2_with fail
          go_ret2
          exact ⟨w3.heap.size, t, ts, rfl, ⟨g3, heap_alloc_new _ _, hA3.below hAl⟩, hBt, hPa, hB3.alloc hB3.size _, hB3.size⟩
end Go.Proofs.YtokclnjaglklhaaDoor
