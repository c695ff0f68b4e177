import Derived.Test.YtfnpmncmceocdaaDoorPgDr
/-! Show where it takes the call. -/
namespace Go.Proofs.YtfnpmncmceocdaaDoor
open Go.RowKit Go.Lib Go.Shelf
set_option maxRecDepth 100000

def str1 (b : ByteArray) : List Value := [.string b]
theorem layStr1 : Lay str1 1 := ⟨fun _ => rfl, by decide, fun x u hu => by simp [str1] at hu; subst hu; rfl⟩
theorem kindStr1 : Kind Tryd.prog 34 9 1 16 := kind_of Tryd.underlying34 (z := .string ⟨#[]⟩) (by kernel_rfl) rfl
/-- A row's string. -/
def rowB (rs : List Int) (car : Int) (x : Rv) : ByteArray := ⟨(drawnB rs x.lo x.hi x.hard car).toArray⟩
/-- The strings that are shown. -/
def shownL (rs : List Int) (W H top : Nat) (car : Int) : List ByteArray := (((rowsP rs W).drop top).take H).map (rowB rs car)
theorem shownL_len (rs : List Int) (W H top : Nat) (car : Int) : (shownL rs W H top car).length = min H ((rowsP rs W).length - top) := by
  unfold shownL
  rw [List.length_map, List.length_take, List.length_drop]
theorem shownL_get (rs : List Int) (W H top : Nat) (car : Int) {j : Nat} (hj : j < H) {x : Rv} (hx : (rowsP rs W)[top + j]? = some x) : (shownL rs W H top car)[j]? = some (rowB rs car x) := by
  unfold shownL
  rw [List.getElem?_map, List.getElem?_take, if_pos hj, List.getElem?_drop, hx]
  rfl
theorem take_snoc {α : Type} {l : List α} {j : Nat} {x : α} (h : l[j]? = some x) : l.take (j + 1) = l.take j ++ [x] := by
  obtain ⟨hj, rfl⟩ := List.getElem?_eq_some_iff.1 h
  rw [List.take_append_getElem]
set_option maxHeartbeats 16000000 in
theorem Show_ok {s : ByteArray} {rs : List Int} (ht : IsText s rs) (W H : Nat) (hW : 1 ≤ W ∧ W ≤ 1024) (hH : 1 ≤ H ∧ H ≤ 1024) (hn : rs.length ≤ 4294967000) {w : World} (hP : PTab w) (hG : Glob w.heap.size) (top : Nat) (htop : top < (rowsP rs W).length) (car : Int) (hc : car = -1 ∨ ∃ at' : Nat, at' ≤ rs.length ∧ car = at') :
    Calls Tryd.prog 9 #[.string s, .int .i64 (W : Int), .int .i64 (H : Int), .int .i64 (top : Int), .int .i64 car] w fun e w' => ∃ a cap, e = .returned (.tuple #[.slice a (shownL rs W H top car).length cap, .int .i64 0]) ∧ Rw str1 1 w' a (shownL rs W H top car).length cap (shownL rs W H top car) ∧ Below w.heap.size w w' := by
  have HLa := lay_sheet ht W H hW hH hn hP hG
  have HT : Hid (IsText s rs ∧ PTab w) := ⟨ht, hP⟩
  have hlen := shownL_len rs W H top car
  have HG := fun j x => shownL_get rs W H top car (j := j) (x := x)
  obtain ⟨L, hL⟩ : ∃ L, shownL rs W H top car = L := ⟨_, rfl⟩
  rw [hL] at hlen HG ⊢
  have HGet : Hid (∀ j x, j < H → (rowsP rs W)[top + j]? = some x → L[j]? = some (rowB rs car x)) := HG
  clear ht hW hP hG HG hL
  go_enter Tryd.func9, Tryd.ntmps9
  go_wp2_with fail
  refine HLa.mono ?_
  rintro e w1 ⟨a, k, cap, rfl, hsh, hb1⟩
  have hk := hsh.len
  obtain ⟨m, hm⟩ : ∃ m, rs.length = m := ⟨_, rfl⟩
  rw [hm]
  obtain ⟨w2, hw2⟩ : ∃ V, w1.alloc (.cells #[.string s, .int .i64 (m : Int), .slice a k cap] 48) = V := ⟨_, rfl⟩
  have hb2 : Below w1.heap.size w1 w2 := by rw [← hw2]; exact (Below.refl _ _).alloc (Nat.le_refl _) _
  have hx2 : w2.heap[w1.heap.size]? = some (.cells #[.string s, .int .i64 (m : Int), .slice a k cap] 48) := by rw [← hw2]; exact heap_alloc_new _ _
  have hbw2 := hb1.trans (hb2.mono hb1.size)
  have hsh2 := hsh.below hb2
  obtain ⟨c0, c1, c2⟩ := box3 hx2
  have hha := hasRow_any s m a k cap (top : Int) w2
  rw [show decide (0 ≤ (top : Int) ∧ (top : Int) < (k : Int)) = true from decide_eq_true ⟨by omega, by omega⟩] at hha
  obtain ⟨N, hN⟩ : ∃ N, w1.heap.size = N := ⟨_, rfl⟩
  rw [hN] at hx2
  have hNlo : w.heap.size ≤ N := by rw [← hN]; exact hb1.size
  rw [hN] at c0 c1 c2
  clear hsh hb1 hb2 HLa
  go_wp2_with fail
  refine hha.mono ?_
  rintro e w3 ⟨rfl, hb3⟩
  have hx3 := (hb3.block _ (Array.getElem?_eq_some_iff.1 hx2).1).trans hx2
  have hbw3 := hbw2.trans (hb3.mono hbw2.size)
  have hsh3 := hsh2.below hb3
  clear hha hb3 hx2 hsh2 hbw2 c0 c1 c2 hN hw2
  obtain ⟨c0, c1, c2⟩ := box3 hx3
  by_cases hcar : car = -1
  · have z1 : (car == -1) = true := beq_iff_eq.2 hcar
    have z2 : (car != -1) = false := by rw [hcar]; rfl
    clear hcar
    have hxw3 := hx3
    have hbw3' := hbw3
    have hshw3 := hsh3
    have hbw3 := hbw3'
    clear hx3 hsh3 hbw3'
    go_wp2_with fail
    obtain ⟨B, hB⟩ : ∃ B, w3.heap.size = B := ⟨_, rfl⟩
    have HW : Hid (Below w.heap.size w w3 ∧ w3.heap[N]? = some (.cells #[.string s, .int .i64 (m : Int), .slice a k cap] 48) ∧ N < B ∧ w.heap.size ≤ B) := ⟨hbw3, hxw3, by rw [← hB]; exact (Array.getElem?_eq_some_iff.1 hxw3).1, by rw [← hB]; exact hbw3.size⟩
    have HDr : Hid (∀ V, Below w3.heap.size w3 V → ∀ (r lo hi : Nat) (hard : Bool), (rowsP rs W)[r]? = some ⟨lo, hi, hard⟩ → Calls Tryd.prog 19 #[.agg #[.string s, .int .i64 (m : Int), .slice a k cap], .int .i64 (r : Int), .int .i64 car] V fun e w' => e = .returned (.string ⟨(drawnB rs lo hi hard car).toArray⟩) ∧ Below V.heap.size V w') := by
      intro V hV r lo hi hard hr
      have h1 := hshw3.below hV
      have h2 := HT.out.2.below (hbw3.trans (hV.mono hbw3.size))
      exact drawn_any HT.out.1 h1 h2 (m : Int) hr car hc
    have hfw := rowsP_few rs W
    have HLen : Hid (L.length = min H ((rowsP rs W).length - top) ∧ L.length ≤ 1024 ∧ (rowsP rs W).length = k ∧ k ≤ 4294967001) := ⟨hlen, by omega, hk, by omega⟩
    clear hfw
    rw [hB] at HDr
    clear hxw3 hbw3 hshw3 c0 c1 c2 hlen hc
    go_loopw [14, 15] (fun v14 v15 w' => ∃ j : Nat, j ≤ L.length ∧ v15 = .int .i64 ((top + j : Nat) : Int) ∧ Hid (OwnF str1 1 9 w' B v14 (L.take j) ∧ Below B w3 w')) (fun _ v15 _ => match v15 with | .int _ i => ((k : Int) - i).toNat | _ => 0)
    case atStart => exact ⟨0, Nat.zero_le _, rfl, ownF_nil _ _, hB ▸ Below.refl _ _⟩
    case round =>
      obtain ⟨j, hj, rfl, HS⟩ := hrel
      obtain ⟨ho, hb⟩ := HS.out
      have hsz : B ≤ wr.heap.size := by have := hb.size; omega
      have hxr := (hb.block N HW.out.2.2.1).trans HW.out.2.1
      obtain ⟨c0, c1, c2⟩ := box3 hxr
      obtain ⟨l1, l2, l3, l4⟩ := HLen.out
      obtain ⟨b2, cap2, ev⟩ := ho.shape
      rw [List.length_take, Nat.min_eq_left hj] at ev
      subst ev
      by_cases hjl : j < L.length
      · have hjk : top + j < k := by omega
        have hjH : j < H := by omega
        obtain ⟨⟨lo, hi, hard⟩, hrow⟩ : ∃ x, (rowsP rs W)[top + j]? = some x := ⟨_, List.getElem?_eq_getElem (by omega)⟩
        have hgj := HGet.out j _ hjH hrow
        have hCo := HDr.out wr hb _ _ _ _ hrow
        have hst := take_snoc hgj
        have q1 : decide (((top + j : Nat) : Int) < (k : Int)) = true := decide_eq_true (by omega)
        have q1' : decide (top + j < k) = true := decide_eq_true hjk
        have q1'' : decide ((top : Int) + (j : Int) < (k : Int)) = true := decide_eq_true (by omega)
        have q2 : decide ((j : Int) < (H : Int)) = true := decide_eq_true (by omega)
        have q2' : decide (j < H) = true := decide_eq_true hjH
        have HApp : Hid (∀ V, Below wr.heap.size wr V → ∃ g5 cap5 w6, (Builtin.append_ #[34, 34] 34 #[.slice b2 j cap2, .slice (some ⟨V.heap.size, 0, none⟩) 1 1]).run Tryd.prog (V.alloc (.cells #[.string ⟨(drawnB rs lo hi hard car).toArray⟩] 9)) = .ok (.slice (some ⟨g5, 0, none⟩) (j + 1) cap5) w6 ∧ Hid (OwnF str1 1 9 w6 B (.slice (some ⟨g5, 0, none⟩) (j + 1) cap5) (L.take (j + 1)) ∧ Below B w3 w6)) := fun V hV => by
          have ho3 := ho.below hV
          have hs3 := hV.size
          have hlt : (L.take j).length = j := by rw [List.length_take, Nat.min_eq_left hj]
          obtain ⟨g5, cap5, w6, hr6, ho6, hb6, -, -, -⟩ := appendF_one kindStr1 layStr1 ho3 (by omega) (rowB rs car ⟨lo, hi, hard⟩) #[.string ⟨(drawnB rs lo hi hard car).toArray⟩] rfl 9 (by omega) (by omega) 34
          rw [hlt] at hr6 ho6
          rw [← hst] at ho6
          exact ⟨g5, cap5, w6, hr6, ho6, (hb.trans (hV.mono hsz)).trans hb6⟩
        clear HS ho hb hxr hrow hgj hst l1 hsz
        go_wp2_with fail
        refine hCo.mono ?_
        rintro e w5 ⟨rfl, hb5⟩
        obtain ⟨g5, cap5, w6, hr6, HN⟩ := HApp.out w5 hb5
        clear HApp hCo hb5 c0 c1 c2
        go_wp2_with (at_builtin; refine wpList_append_hr rfl _ _ 34 rfl _ _ rfl rfl hr6 ?_)
        refine ⟨⟨j + 1, by omega, by go_num, HN.out⟩, ?_⟩
        dsimp only
        omega
      · have hje : j = L.length := by omega
        subst hje
        rw [List.take_length] at ho
        have hRw := ho.rw_ layStr1
        have HZ : Hid (Below w.heap.size w wr ∧ Rw str1 1 wr b2 L.length cap2 L) := ⟨HW.out.1.trans (hb.mono HW.out.2.2.2), hRw⟩
        clear HS ho hb hxr hRw
        by_cases hjk : top + L.length < k
        · have q1 : decide (((top + L.length : Nat) : Int) < (k : Int)) = true := decide_eq_true (by omega)
          have q1' : decide (top + L.length < k) = true := decide_eq_true hjk
          have q1'' : decide ((top : Int) + (L.length : Int) < (k : Int)) = true := decide_eq_true (by omega)
          have q2 : decide ((L.length : Int) < (H : Int)) = false := decide_eq_false (by omega)
          have q2' : decide (L.length < H) = false := decide_eq_false (by omega)
          clear l1
          go_wp2_with fail
          refine bodyPost_ret (v := .tuple #[.slice b2 L.length cap2, .int .i64 0]) (by simp [results, Tryd.results9, go_sem]) rfl ?_
          exact ⟨b2, cap2, rfl, HZ.out.2, HZ.out.1⟩
        · have q1 : decide (((top + L.length : Nat) : Int) < (k : Int)) = false := decide_eq_false (by omega)
          have q1' : decide (top + L.length < k) = false := decide_eq_false hjk
          have q1'' : decide ((top : Int) + (L.length : Int) < (k : Int)) = false := decide_eq_false (by omega)
          clear l1
          go_wp2_with fail
          refine bodyPost_ret (v := .tuple #[.slice b2 L.length cap2, .int .i64 0]) (by simp [results, Tryd.results9, go_sem]) rfl ?_
          exact ⟨b2, cap2, rfl, HZ.out.2, HZ.out.1⟩
  · have z1 : (car == -1) = false := beq_eq_false_iff_ne.2 hcar
    have z2 : (car != -1) = true := by rw [bne, z1]; rfl
    have hha2 := has_any s m a k cap car w3
    rw [show decide (0 ≤ car ∧ car ≤ (m : Int)) = true from decide_eq_true (by obtain ⟨at', ha, he⟩ := hc.resolve_left hcar; omega)] at hha2
    clear hcar
    go_wp2_with fail
    refine hha2.mono ?_
    rintro e w4 ⟨rfl, hb4⟩
    have hxw4 := (hb4.block _ (Array.getElem?_eq_some_iff.1 hx3).1).trans hx3
    have hbw4 := hbw3.trans (hb4.mono hbw3.size)
    have hshw4 := hsh3.below hb4
    clear hha2 hb4 hx3 hbw3 hsh3 c0 c1 c2
    obtain ⟨c0, c1, c2⟩ := box3 hxw4
    go_wp2_with fail
    obtain ⟨B, hB⟩ : ∃ B, w4.heap.size = B := ⟨_, rfl⟩
    have HW : Hid (Below w.heap.size w w4 ∧ w4.heap[N]? = some (.cells #[.string s, .int .i64 (m : Int), .slice a k cap] 48) ∧ N < B ∧ w.heap.size ≤ B) := ⟨hbw4, hxw4, by rw [← hB]; exact (Array.getElem?_eq_some_iff.1 hxw4).1, by rw [← hB]; exact hbw4.size⟩
    have HDr : Hid (∀ V, Below w4.heap.size w4 V → ∀ (r lo hi : Nat) (hard : Bool), (rowsP rs W)[r]? = some ⟨lo, hi, hard⟩ → Calls Tryd.prog 19 #[.agg #[.string s, .int .i64 (m : Int), .slice a k cap], .int .i64 (r : Int), .int .i64 car] V fun e w' => e = .returned (.string ⟨(drawnB rs lo hi hard car).toArray⟩) ∧ Below V.heap.size V w') := by
      intro V hV r lo hi hard hr
      have h1 := hshw4.below hV
      have h2 := HT.out.2.below (hbw4.trans (hV.mono hbw4.size))
      exact drawn_any HT.out.1 h1 h2 (m : Int) hr car hc
    have hfw := rowsP_few rs W
    have HLen : Hid (L.length = min H ((rowsP rs W).length - top) ∧ L.length ≤ 1024 ∧ (rowsP rs W).length = k ∧ k ≤ 4294967001) := ⟨hlen, by omega, hk, by omega⟩
    clear hfw
    rw [hB] at HDr
    clear hxw4 hbw4 hshw4 c0 c1 c2 hlen hc
    go_loopw [14, 15] (fun v14 v15 w' => ∃ j : Nat, j ≤ L.length ∧ v15 = .int .i64 ((top + j : Nat) : Int) ∧ Hid (OwnF str1 1 9 w' B v14 (L.take j) ∧ Below B w4 w')) (fun _ v15 _ => match v15 with | .int _ i => ((k : Int) - i).toNat | _ => 0)
    case atStart => exact ⟨0, Nat.zero_le _, rfl, ownF_nil _ _, hB ▸ Below.refl _ _⟩
    case round =>
      obtain ⟨j, hj, rfl, HS⟩ := hrel
      obtain ⟨ho, hb⟩ := HS.out
      have hsz : B ≤ wr.heap.size := by have := hb.size; omega
      have hxr := (hb.block N HW.out.2.2.1).trans HW.out.2.1
      obtain ⟨c0, c1, c2⟩ := box3 hxr
      obtain ⟨l1, l2, l3, l4⟩ := HLen.out
      obtain ⟨b2, cap2, ev⟩ := ho.shape
      rw [List.length_take, Nat.min_eq_left hj] at ev
      subst ev
      by_cases hjl : j < L.length
      · have hjk : top + j < k := by omega
        have hjH : j < H := by omega
        obtain ⟨⟨lo, hi, hard⟩, hrow⟩ : ∃ x, (rowsP rs W)[top + j]? = some x := ⟨_, List.getElem?_eq_getElem (by omega)⟩
        have hgj := HGet.out j _ hjH hrow
        have hCo := HDr.out wr hb _ _ _ _ hrow
        have hst := take_snoc hgj
        have q1 : decide (((top + j : Nat) : Int) < (k : Int)) = true := decide_eq_true (by omega)
        have q1' : decide (top + j < k) = true := decide_eq_true hjk
        have q1'' : decide ((top : Int) + (j : Int) < (k : Int)) = true := decide_eq_true (by omega)
        have q2 : decide ((j : Int) < (H : Int)) = true := decide_eq_true (by omega)
        have q2' : decide (j < H) = true := decide_eq_true hjH
        have HApp : Hid (∀ V, Below wr.heap.size wr V → ∃ g5 cap5 w6, (Builtin.append_ #[34, 34] 34 #[.slice b2 j cap2, .slice (some ⟨V.heap.size, 0, none⟩) 1 1]).run Tryd.prog (V.alloc (.cells #[.string ⟨(drawnB rs lo hi hard car).toArray⟩] 9)) = .ok (.slice (some ⟨g5, 0, none⟩) (j + 1) cap5) w6 ∧ Hid (OwnF str1 1 9 w6 B (.slice (some ⟨g5, 0, none⟩) (j + 1) cap5) (L.take (j + 1)) ∧ Below B w4 w6)) := fun V hV => by
          have ho3 := ho.below hV
          have hs3 := hV.size
          have hlt : (L.take j).length = j := by rw [List.length_take, Nat.min_eq_left hj]
          obtain ⟨g5, cap5, w6, hr6, ho6, hb6, -, -, -⟩ := appendF_one kindStr1 layStr1 ho3 (by omega) (rowB rs car ⟨lo, hi, hard⟩) #[.string ⟨(drawnB rs lo hi hard car).toArray⟩] rfl 9 (by omega) (by omega) 34
          rw [hlt] at hr6 ho6
          rw [← hst] at ho6
          exact ⟨g5, cap5, w6, hr6, ho6, (hb.trans (hV.mono hsz)).trans hb6⟩
        clear HS ho hb hxr hrow hgj hst l1 hsz
        go_wp2_with fail
        refine hCo.mono ?_
        rintro e w5 ⟨rfl, hb5⟩
        obtain ⟨g5, cap5, w6, hr6, HN⟩ := HApp.out w5 hb5
        clear HApp hCo hb5 c0 c1 c2
        go_wp2_with (at_builtin; refine wpList_append_hr rfl _ _ 34 rfl _ _ rfl rfl hr6 ?_)
        refine ⟨⟨j + 1, by omega, by go_num, HN.out⟩, ?_⟩
        dsimp only
        omega
      · have hje : j = L.length := by omega
        subst hje
        rw [List.take_length] at ho
        have hRw := ho.rw_ layStr1
        have HZ : Hid (Below w.heap.size w wr ∧ Rw str1 1 wr b2 L.length cap2 L) := ⟨HW.out.1.trans (hb.mono HW.out.2.2.2), hRw⟩
        clear HS ho hb hxr hRw
        by_cases hjk : top + L.length < k
        · have q1 : decide (((top + L.length : Nat) : Int) < (k : Int)) = true := decide_eq_true (by omega)
          have q1' : decide (top + L.length < k) = true := decide_eq_true hjk
          have q1'' : decide ((top : Int) + (L.length : Int) < (k : Int)) = true := decide_eq_true (by omega)
          have q2 : decide ((L.length : Int) < (H : Int)) = false := decide_eq_false (by omega)
          have q2' : decide (L.length < H) = false := decide_eq_false (by omega)
          clear l1
          go_wp2_with fail
          refine bodyPost_ret (v := .tuple #[.slice b2 L.length cap2, .int .i64 0]) (by simp [results, Tryd.results9, go_sem]) rfl ?_
          exact ⟨b2, cap2, rfl, HZ.out.2, HZ.out.1⟩
        · have q1 : decide (((top + L.length : Nat) : Int) < (k : Int)) = false := decide_eq_false (by omega)
          have q1' : decide (top + L.length < k) = false := decide_eq_false hjk
          have q1'' : decide ((top : Int) + (L.length : Int) < (k : Int)) = false := decide_eq_false (by omega)
          clear l1
          go_wp2_with fail
          refine bodyPost_ret (v := .tuple #[.slice b2 L.length cap2, .int .i64 0]) (by simp [results, Tryd.results9, go_sem]) rfl ?_
          exact ⟨b2, cap2, rfl, HZ.out.2, HZ.out.1⟩
end Go.Proofs.YtfnpmncmceocdaaDoor
