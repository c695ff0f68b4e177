import Derived.Test.YtokclnjaglklhaaDoorRpB
import Derived.Test.YtokclnjaglklhaaDoorRpPR
namespace Go.Proofs.YtokclnjaglklhaaDoor
open Go.RowKit Go.Lib
set_option maxRecDepth 100000

section
variable {α : Type} {f : α → List Value} {k : Nat} {T : TypeId}
theorem OwnF.keep {w w' : World} {B : Nat} {v : Value} {l : List α} (h : OwnF f k T w B v l) (hk : ∀ g, v.ownBlock = some g → w'.heap[g]? = w.heap[g]?) : OwnF f k T w' B v l := by
  refine ⟨h.1, ?_⟩
  rcases h.2 with h0 | ⟨g, cap, cur, e, h1, hh, rest⟩
  · exact .inl h0
  · exact .inr ⟨g, cap, cur, e, h1, (hk g (by rw [e]; rfl)).trans hh, rest⟩
theorem OwnF.notIter {w : World} {B K p : Nat} {s : ByteArray} {v : Value} {l : List α} (h : OwnF f k T w B v l) (hi : w.heap[K]? = some (.stringIter s p)) : v.ownBlock ≠ some K := by
  intro e
  rcases h.2 with ⟨rfl, _⟩ | ⟨g, cap, cur, rfl, h1, hh, rest⟩
  · simp [Value.ownBlock] at e
  · simp only [Value.ownBlock, Option.some.injEq] at e
    subst e
    rw [hi] at hh
    cases hh
end
theorem cellsOf_take_succ (L : List GRun) (i : Nat) (x : GRun) (hx : L[i]? = some x) : cellsOf (L.take (i + 1)) = cellsOf (L.take i) ++ x.rs.map fun c => (c, x.h) := by
  obtain ⟨hi, rfl⟩ := List.getElem?_eq_some_iff.1 hx
  rw [List.take_succ_eq_append_getElem hi]
  unfold cellsOf
  rw [List.flatMap_append]
  simp
theorem map_take_succ (rs : List Int) (j : Nat) (hj : j < rs.length) (h : Int) : ((rs.take (j + 1)).map fun c => (c, h)) = ((rs.take j).map fun c => (c, h)) ++ [(rs[j], h)] := by
  rw [List.take_succ_eq_append_getElem hj, List.map_append]
  rfl
theorem cellsOf_le (L : List GRun) (i : Nat) (x : GRun) (hx : L[i]? = some x) : (cellsOf (L.take i)).length + x.rs.length ≤ (cellsOf L).length := by
  have h1 := cellsOf_take_succ L i x hx
  have h2 : cellsOf L = cellsOf (L.take (i + 1)) ++ cellsOf (L.drop (i + 1)) := by
    unfold cellsOf
    rw [← List.flatMap_append, List.take_append_drop]
  rw [h2, h1]
  simp
set_option maxHeartbeats 1000000 in
theorem cells_any {w : World} {a : Option Addr} {n cap : Nat} {L : List GRun} (h : Rw runV 2 w a n cap L) (hL : ∀ x ∈ L, IsText x.s x.rs) (hs : (cellsOf L).length ≤ 1048576) :
    Calls Tryd.prog 5 #[.slice a n cap] w fun e w' => ∃ v, e = .returned v ∧ OwnF cellV 2 41 w' w.heap.size v (cellsOf L) ∧ Below w.heap.size w w' := by
  have hlen := h.len
  have hroom := h.room
  have hn : n ≤ 9223372036854775807 := by simp only [maxLen] at hroom; omega
  have HT : Hid (∀ x ∈ L, IsText x.s x.rs) := hL
  clear hL
  go_enter Tryd.func5, Tryd.ntmps5
  go_wp2_with fail
  go_loopw [3, 4] (fun v vi w' => ∃ i : Nat, vi = .int .i64 (i : Int) ∧ i ≤ n ∧ OwnF cellV 2 41 w' w.heap.size v (cellsOf (L.take i)) ∧ Below w.heap.size w w') (fun _ i _ => n - (intOf i).toNat)
  case atStart => exact ⟨0, rfl, Nat.zero_le _, ownF_nil _ _, Below.refl _ _⟩
  case round =>
    obtain ⟨i, rfl, hin, ho, hb⟩ := hrel
    by_cases hi : i < n
    · obtain ⟨g, off, x, rfl, hg, hx, hc⟩ := h.at i hi
      have htx : IsText x.s x.rs := HT.out x (List.mem_of_getElem? hx)
      have hle := cellsOf_le L i x hx
      have hsu := cellsOf_take_succ L i x hx
      have HC : Hid (∀ w', Below w.heap.size w w' → w'.cell? ⟨g, off + i * 2 + 1, none⟩ = some (.int .i64 x.h)) := fun w' hb' => (hb'.cell (p := ⟨g, off + i * 2 + 1, none⟩) hg).trans (hc 1 _ rfl)
      have c0 : wr.cell? ⟨g, off + i * 2, none⟩ = some (.string x.s) := (hb.cell (p := ⟨g, off + i * 2 + 0, none⟩) hg).trans (hc 0 _ rfl)
      have HS : Hid (cellsOf (L.take (i + 1)) = cellsOf (L.take i) ++ x.rs.map fun c => (c, x.h)) := hsu
      clear hsu hc hx
      obtain ⟨xs, xr, xh⟩ := x
      simp only at c0 htx hle
      have hsz := hb.size
      obtain ⟨w0, hw0⟩ : ∃ w0, w0 = wr := ⟨_, rfl⟩
      subst hw0
      go_wp2_with fail
      go_loopw [3] (fun v w' => ∃ j : Nat, j ≤ xr.length ∧ w'.heap[w0.heap.size]? = some (.stringIter xs (posOf xr j)) ∧ OwnF cellV 2 41 w' w.heap.size v (cellsOf (L.take i) ++ (xr.take j).map fun c => (c, xh)) ∧ Below w.heap.size w w') (fun _ w' => xs.size - w'.iterPos w0.heap.size)
      case atStart =>
        refine ⟨0, Nat.zero_le _, ?_, ?_, hb.alloc hsz _⟩
        · rw [posOf_zero]; exact World.iter_heap _ _ _
        · rw [List.take_zero, List.map_nil, List.append_nil]
          exact ho.below ((Below.refl _ _).alloc (Nat.le_refl _) _)
      case round =>
        clear ho hb c0
        obtain ⟨j, hj, hit, ho, hb⟩ := hrel
        have hsz2 := hb.size
        by_cases hjl : j < xr.length
        · have hnx : ∀ ty, (Instr.next (.pointer (some ⟨w0.heap.size, 0, none⟩)) true ty).run Tryd.prog wr = _ := fun ty => run_next_text htx wr w0.heap.size j ty hit hjl
          have hni := ho.notIter hit
          have hb2 : Below w.heap.size w (wr.iterAt w0.heap.size xs (posOf xr (j + 1))) := below_iterAt hb hsz _ _
          have hit2 := iterAt_heap wr w0.heap.size xs _ (posOf xr (j + 1)) hit
          have ho2 := ho.keep (w' := wr.iterAt w0.heap.size xs (posOf xr (j + 1))) (fun q hq => iterAt_other _ _ _ _ _ (fun e => hni (by rw [hq, e])))
          have HP : Hid (wr.iterPos w0.heap.size = posOf xr j) := by simp [Hid, World.iterPos, hit]
          generalize hW : wr.iterAt w0.heap.size xs (posOf xr (j + 1)) = W2 at *
          clear hW ho hit hb
          have hK2 : w0.heap.size < W2.heap.size := (Array.getElem?_eq_some_iff.1 hit2).1
          have c1 := HC.out _ hb2
          have hll : (cellsOf (L.take i) ++ (xr.take j).map fun c => (c, xh)).length ≤ 1048576 := by
            rw [List.length_append, List.length_map, List.length_take]; omega
          have hsn := map_take_succ xr j hjl xh
          generalize hrj : xr[j] = r at *
          have HSN : Hid (((xr.take (j + 1)).map fun c => (c, xh)) = ((xr.take j).map fun c => (c, xh)) ++ [(r, xh)]) := hsn
          clear hsn
          generalize hacc : (cellsOf (L.take i) ++ (xr.take j).map fun c => (c, xh)) = acc at *
          have HACC : Hid ((cellsOf (L.take i) ++ (xr.take j).map fun c => (c, xh)) = acc) := hacc
          clear hacc hrj
          obtain ⟨g5, cap5, w6, hr, ho6, hb6, hkp, hgt⟩ := appendF_one kindC layC ho2 hb2.size (r, xh) #[.int .i32 r, .int .i64 xh] rfl 41 (by omega) (by omega) 26
          have hit6 : w6.heap[w0.heap.size]? = some (.stringIter xs (posOf xr (j + 1))) := (hkp _ hK2 (fun e => hni e)).trans hit2
          go_wp2_with (at_builtin; refine wpList_append_hr rfl _ _ 26 rfl _ _ rfl rfl hr ?_)
          refine ⟨⟨j + 1, by omega, hit6, ?_, hb2.trans hb6⟩, ?_⟩
          · rw [HSN.out, ← List.append_assoc, HACC.out]; exact ho6
          · rw [HP.out, iterPos_of' hit6, htx.size]
            have h1 := posOf_lt xr (i := j) (j := j + 1) (by omega) (by omega)
            have h2 := posOf_mono xr (i := j + 1) (j := xr.length) (by omega)
            omega
        · obtain rfl : j = xr.length := by omega
          have hnx : ∀ ty, (Instr.next (.pointer (some ⟨w0.heap.size, 0, none⟩)) true ty).run Tryd.prog wr = _ := fun ty => run_next_done htx wr w0.heap.size ty hit
          rw [List.take_length] at ho
          rw [← HS.out] at ho
          clear hit
          go_wp2_with fail
          go_roundw
          case rel => exact ⟨i + 1, by go_num, by omega, ho, hb⟩
          case measure => simp [intOf]; omega
    · go_wp2_with fail
      go_ret
      rw [show L.take i = L from List.take_of_length_le (by omega)] at ho
      exact ⟨_, rfl, ho, hb⟩
theorem vis_take_succ (l : List (Int × Int)) (i : Nat) (x : Int × Int) (hx : l[i]? = some x) : vis (l.take (i + 1)) = vis (l.take i) + if x.2 = 0 then 1 else 0 := by
  obtain ⟨hi, rfl⟩ := List.getElem?_eq_some_iff.1 hx
  rw [List.take_succ_eq_append_getElem hi, vis_append]
  simp [vis, cnt]
set_option maxHeartbeats 400000 in
/-- The statement's own count of visible cells. -/
theorem shown_any {w : World} {a : Option Addr} {n cap : Nat} {l : List (Int × Int)} (h : Rw cellV 2 w a n cap l) (m : Nat) (hm : m ≤ n) (hn : n ≤ 1048576) :
    Calls Tryd.prog 25 #[.slice a n cap, .int .i64 (m : Int)] w fun e w' => e = .returned (.int .i64 (vis (l.take m) : Int)) ∧ w' = w := by
  have hlen := h.len
  go_enter Tryd.func25, Tryd.ntmps25
  go_wp2_with fail
  go_loop [5, 6] (fun vk vi => ∃ i : Nat, i ≤ m ∧ vi = .int .i64 (i : Int) ∧ vk = .int .i64 (vis (l.take i) : Int)) (fun _ i => m - (intOf i).toNat)
  case atStart => exact ⟨0, Nat.zero_le _, rfl, rfl⟩
  case round =>
    obtain ⟨i, him, rfl, rfl⟩ := hrel
    by_cases hi : i < m
    · obtain ⟨g, off, x, rfl, hg, hx, hc⟩ := h.at i (by omega)
      have c1 := hc 1 _ rfl
      have hsu := vis_take_succ l i x hx
      have hle := vis_le (l.take i)
      rw [List.length_take] at hle
      have HS : Hid (vis (l.take (i + 1)) = vis (l.take i) + if x.2 = 0 then 1 else 0) := hsu
      clear hsu hc hx
      obtain ⟨x1, x2⟩ := x
      simp only at c1 HS
      have hle2 : vis (l.take i) ≤ 1048576 := by omega
      by_cases h0 : x2 = 0
      · have HS2 : Hid (vis (l.take (i + 1)) = vis (l.take i) + 1) := by have := HS.out; rw [if_pos h0] at this; exact this
        subst h0
        clear HS
        generalize vis (l.take i) = k at *
        go_wp2_with fail
        refine ⟨⟨i + 1, by omega, by go_num, by rw [HS2.out]; go_num⟩, by simp [intOf]; omega⟩
      · have HS2 : Hid (vis (l.take (i + 1)) = vis (l.take i)) := by have := HS.out; rw [if_neg h0] at this; exact this
        have hz : (x2 == 0) = false := by simpa using h0
        clear HS h0
        generalize vis (l.take i) = k at *
        go_wp2_with fail
        refine ⟨⟨i + 1, by omega, by go_num, by rw [HS2.out]⟩, by simp [intOf]; omega⟩
    · obtain rfl : i = m := by omega
      go_wp2_with fail
      go_ret
      exact ⟨rfl, rfl⟩
end Go.Proofs.YtokclnjaglklhaaDoor
