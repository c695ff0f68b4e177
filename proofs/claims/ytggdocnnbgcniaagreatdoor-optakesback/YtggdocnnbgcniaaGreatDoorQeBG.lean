import Derived.Test.YtggdocnnbgcniaaGreatDoorQaAC
import Derived.Test.YtggdocnnbgcniaaGreatDoorQcA
namespace Go.Proofs.YtggdocnnbgcniaaGreatDoor
open Go.RowKit Go.Lib
set_option maxRecDepth 100000
theorem conv_runesT {s : ByteArray} {rs : List Int} (h : IsText s rs) (hl : rs.length ≤ 70368744177664) (w : World) : ∃ cap W',
    (convert 9 44 (.string s)).run Tryz.prog w = .ok (.slice (some ⟨w.heap.size, 0, none⟩) rs.length cap) W' ∧ Rw rune1 1 W' (some ⟨w.heap.size, 0, none⟩) rs.length cap rs ∧ Below w.heap.size w W' ∧ ∃ arr, W'.heap[w.heap.size]? = some (.cells arr 21) := by
  have hsz : ((runesV rs).toArray).size = rs.length := by simp [runesV]
  have := run_runes_of_string (P := Tryz.prog) w 9 44 21 s Tryz.underlying9 Tryz.underlying44 Tryz.underlying21 (by rw [runesFrom_all h, hsz]; exact hl)
  rw [runesFrom_all h, hsz] at this
  refine ⟨_, _, this, ⟨rfl, ⟨grownCap_ge _ _ _ _, grownCap_le_maxLen _ _ _ _ (by unfold maxLen; omega)⟩, fun _ => ⟨w.heap.size, 0, rfl, by simp, fun j x hx i v hv => ?_⟩⟩, ((Below.refl _ _).drew).alloc (Nat.le_refl _) _, _, heap_alloc_new w.drew _⟩
  obtain ⟨hj, rfl⟩ := List.getElem?_eq_some_iff.1 hx
  obtain ⟨rfl, rfl⟩ : i = 0 ∧ v = .int .i32 rs[j] := by
    cases i with
    | zero => simp [rune1] at hv; exact ⟨rfl, hv.symm⟩
    | succ i => simp [rune1] at hv
  rw [show 0 + j * 1 + 0 = j by omega]
  refine (World.cell?_alloc_mark w.drew _ _ _ j).trans ?_
  rw [Array.getElem?_append_left (by simpa [runesV] using hj)]
  simp [runesV, List.getElem?_eq_getElem hj]
theorem OwnF.notAt {α : Type} {f : α → List Value} {k : Nat} {T U : TypeId} {w : World} {B b : Nat} {v : Value} {l : List α} {arr : Array Value} (h : OwnF f k T w B v l) (hb : w.heap[b]? = some (.cells arr U)) (hne : T ≠ U) : v.ownBlock ≠ some b := by
  intro e
  rcases h.2 with ⟨rfl, _⟩ | ⟨g1, c1, cur1, rfl, _, hh, _⟩
  · simp [Value.ownBlock] at e
  · simp only [Value.ownBlock, Option.some.injEq] at e
    subst e
    rw [hb] at hh
    injection hh with e
    injection e with _ e2
    exact hne e2.symm
theorem Rw.stands {α : Type} {f : α → List Value} {k : Nat} {w w' : World} {b off n cap : Nat} {l : List α} (h : Rw f k w (some ⟨b, off, none⟩) n cap l) {o : Obj} (h1 : w.heap[b]? = some o) (h2 : w'.heap[b]? = some o) : Rw f k w' (some ⟨b, off, none⟩) n cap l :=
  ⟨h.len, h.room, fun hn => by
    obtain ⟨g, off', e, _, hc⟩ := h.cells hn
    obtain ⟨rfl, rfl⟩ : b = g ∧ off = off' := by simpa using e
    refine ⟨b, off, rfl, (Array.getElem?_eq_some_iff.1 h2).1, fun j x hj i v hv => ?_⟩
    have := hc j x hj i v hv
    simp only [World.cell?, h1, h2] at this ⊢
    exact this⟩
set_option maxHeartbeats 2000000 in
theorem cells4_any {w : World} {a : Option Addr} {n cap : Nat} {L : List GRun} (h : Rw runV 2 w a n cap L) (hL : ∀ x ∈ L, IsText x.s x.rs) (hs : (cellsOf L).length ≤ 1048576) :
    Calls Tryz.prog 13 #[.slice a n cap] w fun e w' => ∃ v, e = .returned v ∧ OwnF cellV 2 61 w' w.heap.size v (cellsOf L) ∧ Below w.heap.size w w' := by
  have hlen := h.len
  have hroom := h.room
  have hn : n ≤ 9223372036854775807 := by simp only [maxLen] at hroom; omega
  have HT : Hid (∀ x ∈ L, IsText x.s x.rs) := hL
  clear hL
  go_enter Tryz.func13, Tryz.ntmps13
  go_wp2_with fail
  go_loopw [3, 4] (fun v vi w' => ∃ i : Nat, vi = .int .i64 (i : Int) ∧ i ≤ n ∧ OwnF cellV 2 61 w' w.heap.size v (cellsOf (L.take i)) ∧ Below w.heap.size w w') (fun _ i _ => n - (RowKit.intOf i).toNat)
  case atStart => exact ⟨0, rfl, Nat.zero_le _, ownF_nil _ _, Below.refl _ _⟩
  case round =>
    obtain ⟨i, rfl, hin, ho, hb⟩ := hrel
    by_cases hi : i < n
    · obtain ⟨g, off, x, rfl, hg, hx, hc⟩ := h.at i hi
      have htx : IsText x.s x.rs := HT.out x (List.mem_of_getElem? hx)
      have hle := cellsOf_le L i x hx
      have HS : Hid (cellsOf (L.take (i + 1)) = cellsOf (L.take i) ++ x.rs.map fun c => (c, x.h)) := cellsOf_take_succ L i x hx
      obtain ⟨xs, xr, xh⟩ := x
      have HC : Hid (∀ w', Below w.heap.size w w' → w'.cell? ⟨g, off + i * 2 + 1, none⟩ = some (.int .i64 xh)) := fun w' hb' => (hb'.cell (p := ⟨g, off + i * 2 + 1, none⟩) hg).trans (hc 1 _ rfl)
      have c0 : wr.cell? ⟨g, off + i * 2, none⟩ = some (.string xs) := (hb.cell (p := ⟨g, off + i * 2 + 0, none⟩) hg).trans (hc 0 _ rfl)
      clear hc hx
      simp only at htx hle
      have hsz := hb.size
      obtain ⟨w0, hw0⟩ : ∃ w0, w0 = wr := ⟨_, rfl⟩
      subst hw0
      obtain ⟨ct, w5, hcv5, hrt5, hb5, arr, hh5⟩ := conv_runesT htx (by omega) w0
      have ho5 := ho.below hb5
      have hB5 : Below w.heap.size w w5 := hb.trans (hb5.mono hsz)
      obtain ⟨bt, hbt⟩ : ∃ bt, w0.heap.size = bt := ⟨_, rfl⟩
      rw [hbt] at hcv5 hrt5 hh5
      clear hbt ho hb
      go_wp2_with fail
      go_loopw [3, 6] (fun v vk W => ∃ k : Nat, vk = .int .i64 (k : Int) ∧ k ≤ xr.length ∧ W.heap[bt]? = some (.cells arr 21) ∧ OwnF cellV 2 61 W w.heap.size v (cellsOf (L.take i) ++ (xr.take k).map fun c => (c, xh)) ∧ Below w.heap.size w W) (fun _ k _ => xr.length - (RowKit.intOf k).toNat)
      case atStart => exact ⟨0, rfl, Nat.zero_le _, hh5, by rw [List.take_zero, List.map_nil, List.append_nil]; exact ho5, hB5⟩
      case round =>
        obtain ⟨k, rfl, hk, hh, ho, hb⟩ := hrel
        have hrt := hrt5.stands hh5 hh
        clear ho5 hB5 hcv5
        by_cases hkl : k < xr.length
        · obtain ⟨g', off', r, e', hgt, hr, hcr⟩ := hrt.at k hkl
          obtain ⟨rfl, rfl⟩ : bt = g' ∧ 0 = off' := by simpa using e'
          have e8 : wr.cell? ⟨bt, k, none⟩ = some (.int .i32 r) := by have := hcr 0 _ rfl; rw [show 0 + k * 1 + 0 = k by omega] at this; exact this
          have hgw := hb.size
          have c8 := HC.out _ hb
          have hll : (cellsOf (L.take i) ++ (xr.take k).map fun c => (c, xh)).length ≤ 1048576 := by
            rw [List.length_append, List.length_map, List.length_take]; omega
          obtain ⟨hkk, hrk⟩ := List.getElem?_eq_some_iff.1 hr
          have hsn := map_take_succ xr k hkk xh
          rw [hrk] at hsn
          have HSN : Hid (((xr.take (k + 1)).map fun c => (c, xh)) = ((xr.take k).map fun c => (c, xh)) ++ [(r, xh)]) := hsn
          clear hsn hr hcr e' hrk
          generalize hacc : (cellsOf (L.take i) ++ (xr.take k).map fun c => (c, xh)) = acc at *
          have HACC : Hid ((cellsOf (L.take i) ++ (xr.take k).map fun c => (c, xh)) = acc) := hacc
          clear hacc
          obtain ⟨av, cv, rfl⟩ := ho.shape
          have hd8 : Below wr.heap.size wr wr.drew := (Below.refl _ _).drew
          obtain ⟨g7, cap7, w7, hr7, ho7, hb7, hkp7, hgt7⟩ := appendF_one kindC layC (ho.below hd8) (by have := hd8.size; omega) (r, xh) #[.int .i32 r, .int .i64 xh] rfl 61 (by omega) (by omega) 32
          have hh7 : w7.heap[bt]? = some (.cells arr 21) := (hkp7 bt hgt (ho.notAt hh (by decide))).trans hh
          have hB7 : Below w.heap.size w w7 := (hb.trans (hd8.mono hgw)).trans hb7
          have c7 := HC.out _ hB7
          have e7 : w7.cell? ⟨bt, k, none⟩ = some (.int .i32 r) := by simp only [World.cell?, hh, hh7] at e8 ⊢; exact e8
          have e9 := (World.cell?_alloc_lt wr.drew (Obj.cells #[.int .i32 r, .int .i64 xh] 61) ⟨bt, k, none⟩ hgt).trans e8
          have c9 := (World.cell?_alloc_lt wr.drew (Obj.cells #[.int .i32 r, .int .i64 xh] 61) ⟨g, off + i * 2 + 1, none⟩ (show g < wr.heap.size by omega)).trans c8
          have HO7 : Hid (OwnF cellV 2 61 w7 w.heap.size (.slice (some ⟨g7, 0, none⟩) (acc.length + 1) cap7) (acc ++ [(r, xh)])) := ho7
          clear ho7 hkp7 hgt7 ho
          go_wp2_with fail
          refine wp_region_held_drew (S := (fun W => W.cell? ⟨bt, k, none⟩ = some (.int .i32 r) ∧ W.cell? ⟨g, off + i * 2 + 1, none⟩ = some (.int .i64 xh))) (by kernel_rfl) ?hS1 (fun hHeld => ?rest1)
          case hS1 => exact ⟨e8, c8⟩
          refine takeD (i := 0) (d := some 25) (v := ?vT2) rfl rfl (by kernel_rfl) (by kernel_rfl) (by kernel_rfl) (fun _ _ _ h => h) (Or.inl ⟨by rfl, ?hyT2⟩) (by assumption) ?rstT2
          case hyT2 => (intro w hSw; (try dsimp only at hSw); go_simp; (try with_reducible rfl))
          try simp only [Act.put, List.setIfInBounds_toArray, List.set_cons_zero, List.set_cons_succ]
          refine takeD (i := 1) (d := some 26) (v := ?vT3) rfl rfl (by kernel_rfl) (by kernel_rfl) (by kernel_rfl) (fun _ _ _ h => h) (Or.inl ⟨by rfl, ?hyT3⟩) (by assumption) ?rstT3
          case hyT3 => (intro w hSw; (try dsimp only at hSw); go_simp; (try with_reducible rfl))
          try simp only [Act.put, List.setIfInBounds_toArray, List.set_cons_zero, List.set_cons_succ]
          refine takeD (i := 2) (d := some 27) (v := ?vT4) rfl rfl (by kernel_rfl) (by kernel_rfl) (by kernel_rfl) (fun _ _ _ h => h) (Or.inl ⟨by rfl, ?hyT4⟩) (by assumption) ?rstT4
          case hyT4 => (intro w hSw; (try dsimp only at hSw); go_simp; (try with_reducible rfl))
          try simp only [Act.put, List.setIfInBounds_toArray, List.set_cons_zero, List.set_cons_succ]
          refine takeD (i := 3) (d := some 28) (v := ?vT5) rfl rfl (by kernel_rfl) (by kernel_rfl) (by kernel_rfl) (fun _ _ _ h => h) (Or.inl ⟨by rfl, ?hyT5⟩) (by assumption) ?rstT5
          case hyT5 => (intro w hSw; (try dsimp only at hSw); go_simp; (try with_reducible rfl))
          try simp only [Act.put, List.setIfInBounds_toArray, List.set_cons_zero, List.set_cons_succ]
          refine takeD (i := 4) (d := some 29) (v := ?vT6) rfl rfl (by kernel_rfl) (by kernel_rfl) (by kernel_rfl) (fun _ _ _ h => h) (Or.inl ⟨by rfl, ?hyT6⟩) (by assumption) ?rstT6
          case hyT6 => (intro w hSw; (try dsimp only at hSw); go_simp; (try with_reducible rfl))
          try simp only [Act.put, List.setIfInBounds_toArray, List.set_cons_zero, List.set_cons_succ]
          refine takeD (i := 5) (d := some 30) (v := ?vT7) rfl rfl (by kernel_rfl) (by kernel_rfl) (by kernel_rfl) (fun _ _ _ h => h) (Or.inl ⟨by rfl, ?hyT7⟩) (by assumption) ?rstT7
          case hyT7 => (intro w hSw; (try dsimp only at hSw); go_simp; (try with_reducible rfl))
          try simp only [Act.put, List.setIfInBounds_toArray, List.set_cons_zero, List.set_cons_succ]
          refine takeD (i := 6) (d := some 31) (v := ?vT8) rfl rfl (by kernel_rfl) (by kernel_rfl) (by kernel_rfl) (fun _ _ _ h => h) (Or.inl ⟨by rfl, ?hyT8⟩) (by assumption) ?rstT8
          case hyT8 => (intro w hSw; (try dsimp only at hSw); go_simp; (try with_reducible rfl))
          try simp only [Act.put, List.setIfInBounds_toArray, List.set_cons_zero, List.set_cons_succ]
          refine takeD (i := 7) (d := some 32) (v := ?vT9) rfl rfl (by kernel_rfl) (by kernel_rfl) (by kernel_rfl) (fun _ _ _ h => h) (Or.inl ⟨by rfl, ?hyT9⟩) (by assumption) ?rstT9
          case hyT9 => (intro w hSw; (try dsimp only at hSw); go_simp; (try with_reducible rfl))
          try simp only [Act.put, List.setIfInBounds_toArray, List.set_cons_zero, List.set_cons_succ]
          refine takeD (i := 8) (d := some 33) (v := ?vT10) rfl rfl (by kernel_rfl) (by kernel_rfl) (by kernel_rfl) (fun _ _ _ h => h) (Or.inl ⟨by rfl, ?hyT10⟩) (by assumption) ?rstT10
          case hyT10 => (intro w hSw; (try dsimp only at hSw); go_simp; (try with_reducible rfl))
          try simp only [Act.put, List.setIfInBounds_toArray, List.set_cons_zero, List.set_cons_succ]
          refine takeD (i := 9) (d := some 34) (v := ?vT11) rfl rfl (by kernel_rfl) (by kernel_rfl) (by kernel_rfl) (fun _ _ _ h => h) (Or.inl ⟨by rfl, ?hyT11⟩) (by assumption) ?rstT11
          case hyT11 => (intro w hSw; (try dsimp only at hSw); go_simp; (try with_reducible rfl))
          try simp only [Act.put, List.setIfInBounds_toArray, List.set_cons_zero, List.set_cons_succ]
          refine takeD (i := 10) (d := some 35) (v := ?vT12) rfl rfl (by kernel_rfl) (by kernel_rfl) (by kernel_rfl) (fun _ _ _ h => h) (Or.inl ⟨by rfl, ?hyT12⟩) (by assumption) ?rstT12
          case hyT12 => (intro w hSw; (try dsimp only at hSw); go_simp; (try with_reducible rfl))
          try simp only [Act.put, List.setIfInBounds_toArray, List.set_cons_zero, List.set_cons_succ]
          refine wpAnyH_ready (rs := [11]) (by kernel_rfl) (by simp) ?_
          refine AllReadyH.cons rfl (fun K hK => ?_) AllReadyH.nil
          go_simp
          clear hHeld
          refine hK.out _ _ ?hS13 (fun hHeld => ?rest13)
          case hS13 => exact ⟨e9, c9⟩
          clear hK K
          try simp only [Act.put, List.setIfInBounds_toArray, List.set_cons_zero, List.set_cons_succ]
          refine wpAnyH_ready (rs := [12]) (by kernel_rfl) (by simp) ?_
          refine AllReadyH.cons rfl (fun K hK => ?_) AllReadyH.nil
          rw [if_pos (by rfl)]
          refine wp_append_hr (.tmp 25) (.tmp 36) 32 (some 37) rfl rfl _ _ rfl rfl hr7 ?_
          clear hHeld
          refine hK.out _ _ ?hS14 (fun hHeld => ?rest14)
          case hS14 => exact ⟨e7, c7⟩
          clear hK K
          try simp only [Act.put, List.setIfInBounds_toArray, List.set_cons_zero, List.set_cons_succ]
          refine takeD (i := 13) (d := some 3) (v := ?vT15) rfl rfl (by kernel_rfl) (by kernel_rfl) (by kernel_rfl) (fun _ _ _ h => h) (Or.inl ⟨by rfl, ?hyT15⟩) (by assumption) ?rstT15
          case hyT15 => (intro w hSw; (try dsimp only at hSw); go_simp; (try with_reducible rfl))
          try simp only [Act.put, List.setIfInBounds_toArray, List.set_cons_zero, List.set_cons_succ]
          refine wpAnyH_done (by kernel_rfl) ?_ _
          go_wp2_with fail
          go_roundw
          case rel => exact ⟨k + 1, by go_num, by omega, hh7, by rw [HSN.out, ← List.append_assoc, HACC.out]; exact HO7.out, hB7⟩
          case measure => simp [RowKit.intOf]; omega
        · obtain rfl : k = xr.length := by omega
          rw [List.take_length] at ho
          rw [← HS.out] at ho
          go_wp2_with fail
          go_roundw
          case rel => exact ⟨i + 1, by go_num, by omega, ho, hb⟩
          case measure => simp [RowKit.intOf]; omega
    · have HO : Hid (OwnF cellV 2 61 wr w.heap.size _ (cellsOf (L.take i))) := ho
      obtain ⟨av, cv, rfl⟩ := ho.shape
      clear ho
      go_wp2_with fail
      go_ret
      have := HO.out
      rw [show L.take i = L from List.take_of_length_le (by omega)] at this ⊢
      exact ⟨_, rfl, this, hb⟩
end Go.Proofs.YtggdocnnbgcniaaGreatDoor

namespace Go.Proofs.YtggdocnnbgcniaaGreatDoor
open Go.RowKit Go.Lib
set_option maxRecDepth 100000
section
variable {R : List (Int × Int)} {m : Nat} {rs : List Int} {hid : Int}
theorem putL_at1 (hm : m ≤ R.length) {i : Nat} (h : i < m) : (putL R m rs hid)[i]? = R[i]? := by
  unfold putL
  rw [List.append_assoc, List.getElem?_append_left (by rw [List.length_take]; omega), List.getElem?_take, if_pos h]
theorem putL_at2 (hm : m ≤ R.length) {j : Nat} {r : Int} (hj : rs[j]? = some r) : (putL R m rs hid)[m + j]? = some (r, hid) := by
  have hl : (R.take m).length = m := by rw [List.length_take]; omega
  have hjl := (List.getElem?_eq_some_iff.1 hj).1
  unfold putL
  rw [List.append_assoc, List.getElem?_append_right (by omega), hl, Nat.add_sub_cancel_left, List.getElem?_append_left (by rw [List.length_map]; exact hjl), List.getElem?_map, hj]
  rfl
theorem putL_at3 (hm : m ≤ R.length) {i : Nat} (h : m ≤ i) : (putL R m rs hid)[i + rs.length]? = R[i]? := by
  have hl : (R.take m).length = m := by rw [List.length_take]; omega
  unfold putL
  rw [List.append_assoc, List.getElem?_append_right (by omega), hl, List.getElem?_append_right (by rw [List.length_map]; omega), List.length_map, List.getElem?_drop]
  congr 1
  omega
end
set_option maxHeartbeats 4000000 in
theorem grown4_any {w : World} {a : Option Addr} {n cap : Nat} {R : List (Int × Int)} (hR : Rw cellV 2 w a n cap R) {a2 : Option Addr} {n2 cap2 m : Nat} {s : ByteArray} {rs : List Int} {hid : Int} (hR2 : Rw cellV 2 w a2 n2 cap2 (putL R m rs hid)) (hm : m ≤ n) (ht : IsText s rs) (hn : n ≤ 1048576) (hrs : rs.length ≤ 1048576) :
    Calls Tryz.prog 22 #[.slice a n cap, .slice a2 n2 cap2, .int .i64 (m : Int), .string s, .int .i64 hid] w fun e w' => e = .returned (.bool true) ∧ Below w.heap.size w w' := by
  have HRL : Hid (R.length = n) := hR.len
  have hn2 : n2 = n + rs.length := by rw [← hR2.len, putL_len, HRL.out]
  have HN2 : Hid (n2 = n + rs.length) := hn2
  obtain ⟨ct, w5, hcv5, hrt5, hb5, arr, hh5⟩ := conv_runesT ht (by omega) w
  have hR5 := hR.below hb5
  have hR25 := hR2.below hb5
  have u0 : IntKind.i64.wrap ((n : Int) + (rs.length : Int)) = (n2 : Int) := by rw [IntWalk.i64_in _ (by omega)]; omega
  have q0 : ((n2 : Int) != (n2 : Int)) = false := by simp
  have b0 : ¬ (n : Int) < (m : Int) := by omega
  have b00 : decide ((n : Int) < (m : Int)) = false := decide_eq_false b0
  have hb2 : n2 ≤ 2097152 := by omega
  have hrl : rs.length ≤ n2 := by omega
  clear hR hR2 hn2
  go_enter Tryz.func22, Tryz.ntmps22
  go_wp2_with fail
  go_loopw [12] (fun vi W => ∃ i : Nat, vi = .int .i64 (i : Int) ∧ i ≤ n2 ∧ Below w5.heap.size w5 W) (fun vi _ => n2 - (RowKit.intOf vi).toNat)
  case atStart => exact ⟨0, rfl, Nat.zero_le _, Below.refl _ _⟩
  case round =>
    clear hcv5
    obtain ⟨i, rfl, hin, hB⟩ := hrel
    have hBs := hB.size
    by_cases hi : i < n2
    · obtain ⟨g2, off2, c2, rfl, hg2, hx2, hcl2⟩ := hR25.at i hi
      obtain ⟨r2, h2⟩ := c2
      have e3 : wr.cell? ⟨g2, off2 + i * 2, none⟩ = some (.int .i32 r2) := (hB.cell (p := ⟨g2, off2 + i * 2 + 0, none⟩) hg2).trans (hcl2 0 _ rfl)
      have e4 : wr.cell? ⟨g2, off2 + i * 2 + 1, none⟩ = some (.int .i64 h2) := (hB.cell (p := ⟨g2, off2 + i * 2 + 1, none⟩) hg2).trans (hcl2 1 _ rfl)
      have b1 : (i : Int) < (n2 : Int) := by omega
      clear hcl2
      by_cases him : i < m
      · have b2 : (i : Int) < (m : Int) := by omega
        obtain ⟨g, off, c, rfl, hg, hx, hcl⟩ := hR5.at i (by omega)
        obtain ⟨r, h⟩ := c
        have e : (putL R m rs hid)[i]? = some (r, h) := (putL_at1 (by rw [HRL.out]; exact hm) him).trans hx
        rw [hx2] at e
        injection e with e
        injection e with er eh
        subst er
        subst eh
        have k0 := fun o => (World.cell?_alloc_lt wr o ⟨g, off + i * 2, none⟩ (show g < wr.heap.size by omega)).trans ((hB.cell (p := ⟨g, off + i * 2 + 0, none⟩) hg).trans (hcl 0 _ rfl))
        have k1 := fun o => (World.cell?_alloc_lt wr o ⟨g, off + i * 2 + 1, none⟩ (show g < wr.heap.size by omega)).trans ((hB.cell (p := ⟨g, off + i * 2 + 1, none⟩) hg).trans (hcl 1 _ rfl))
        clear hcl hx hx2
        go_wp2_with fail
        generalize hWB : wr.alloc (Obj.cells #[.int .i32 r2, .int .i64 h2] 61) = WB
        have hB1 : Below wr.heap.size wr WB := hWB ▸ (Below.refl wr.heap.size wr).alloc (Nat.le_refl _) _
        have hbx : WB.heap[wr.heap.size]? = some (.cells #[.int .i32 r2, .int .i64 h2] 61) := hWB ▸ alloc_last _ _ _ rfl
        clear hWB
        have y0 : WB.cell? ⟨wr.heap.size, 0, none⟩ = some (.int .i32 r2) := by rw [Lib.cell_of_heap hbx]; rfl
        have y1 : WB.cell? ⟨wr.heap.size, 1, none⟩ = some (.int .i64 h2) := by rw [Lib.cell_of_heap hbx]; rfl
        have e3' := (hB1.cell (p := ⟨g2, off2 + i * 2, none⟩) (by simp only; omega)).trans e3
        have e4' := (hB1.cell (p := ⟨g2, off2 + i * 2 + 1, none⟩) (by simp only; omega)).trans e4
        have q1 : (r2 != r2) = false := by simp
        have q2 : (h2 != h2) = false := by simp
        have hBB := hB.trans (hB1.mono hBs)
        clear hbx hB1 e3 e4
        go_quiet (fail)
        go_wp2_with fail
        go_roundw
        case rel => exact ⟨i + 1, by go_num, by omega, below_drewN hBB _⟩
        case measure => simp [RowKit.intOf]; omega
      · have b2 : ¬ (i : Int) < (m : Int) := by omega
        obtain ⟨j, hj⟩ : ∃ j, i = m + j := ⟨i - m, by omega⟩
        have u1 : IntKind.i64.wrap ((m : Int) + (rs.length : Int)) = (m : Int) + (rs.length : Int) := IntWalk.i64_in _ (by omega)
        by_cases hjr : j < rs.length
        · have b3 : (i : Int) < (m : Int) + (rs.length : Int) := by omega
          have u2 : IntKind.i64.wrap ((i : Int) - (m : Int)) = (j : Int) := by rw [IntWalk.i64_in _ (by omega)]; omega
          obtain ⟨g, off, r, e', hg, hx, hcl⟩ := hrt5.at j hjr
          obtain ⟨rfl, rfl⟩ : w.heap.size = g ∧ 0 = off := by simpa using e'
          have e : (putL R m rs hid)[m + j]? = some (r, hid) := putL_at2 (by rw [HRL.out]; exact hm) hx
          rw [← hj, hx2] at e
          injection e with e
          injection e with er eh
          subst er
          subst eh
          have k0 := fun o => (World.cell?_alloc_lt wr o ⟨w.heap.size, j, none⟩ (show w.heap.size < wr.heap.size by omega)).trans ((hB.cell (p := ⟨w.heap.size, j, none⟩) hg).trans (by simpa using hcl 0 _ rfl))
          have HJ : Hid (i = m + j) := hj
          clear hcl hx hx2 e' hj
          go_wp2_with fail
          generalize hWB : wr.alloc (Obj.cells #[.int .i32 r2, .int .i64 h2] 61) = WB
          have hB1 : Below wr.heap.size wr WB := hWB ▸ (Below.refl wr.heap.size wr).alloc (Nat.le_refl _) _
          have hbx : WB.heap[wr.heap.size]? = some (.cells #[.int .i32 r2, .int .i64 h2] 61) := hWB ▸ alloc_last _ _ _ rfl
          clear hWB
          have y0 : WB.cell? ⟨wr.heap.size, 0, none⟩ = some (.int .i32 r2) := by rw [Lib.cell_of_heap hbx]; rfl
          have y1 : WB.cell? ⟨wr.heap.size, 1, none⟩ = some (.int .i64 h2) := by rw [Lib.cell_of_heap hbx]; rfl
          have e3' := (hB1.cell (p := ⟨g2, off2 + i * 2, none⟩) (by simp only; omega)).trans e3
          have e4' := (hB1.cell (p := ⟨g2, off2 + i * 2 + 1, none⟩) (by simp only; omega)).trans e4
          have q1 : (r2 != r2) = false := by simp
          have q2 : (h2 != h2) = false := by simp
          have hBB := hB.trans (hB1.mono hBs)
          clear hbx hB1 e3 e4
          go_quiet (fail)
          go_wp2_with fail
          go_roundw
          case rel => exact ⟨i + 1, by go_num, by omega, below_drewN hBB _⟩
          case measure => simp [RowKit.intOf]; omega
        · have b3 : ¬ (i : Int) < (m : Int) + (rs.length : Int) := by omega
          obtain ⟨k, hk⟩ : ∃ k, i = k + rs.length := ⟨i - rs.length, by omega⟩
          have u2 : IntKind.i64.wrap ((i : Int) - (rs.length : Int)) = (k : Int) := by rw [IntWalk.i64_in _ (by omega)]; omega
          have hkn : k < n := by have := HN2.out; omega
          obtain ⟨g, off, c, rfl, hg, hx, hcl⟩ := hR5.at k hkn
          obtain ⟨r, h⟩ := c
          have e : (putL R m rs hid)[k + rs.length]? = some (r, h) := (putL_at3 (by rw [HRL.out]; exact hm) (by omega)).trans hx
          rw [← hk, hx2] at e
          injection e with e
          injection e with er eh
          subst er
          subst eh
          have k0 := fun o => (World.cell?_alloc_lt wr o ⟨g, off + k * 2, none⟩ (show g < wr.heap.size by omega)).trans ((hB.cell (p := ⟨g, off + k * 2 + 0, none⟩) hg).trans (hcl 0 _ rfl))
          have k1 := fun o => (World.cell?_alloc_lt wr o ⟨g, off + k * 2 + 1, none⟩ (show g < wr.heap.size by omega)).trans ((hB.cell (p := ⟨g, off + k * 2 + 1, none⟩) hg).trans (hcl 1 _ rfl))
          have HJ : Hid (i = m + j) := hj
          have HK : Hid (i = k + rs.length) := hk
          have b4 : (k : Int) < (n : Int) := by omega
          clear hcl hx hx2 hj hk
          go_wp2_with fail
          generalize hWB : wr.alloc (Obj.cells #[.int .i32 r2, .int .i64 h2] 61) = WB
          have hB1 : Below wr.heap.size wr WB := hWB ▸ (Below.refl wr.heap.size wr).alloc (Nat.le_refl _) _
          have hbx : WB.heap[wr.heap.size]? = some (.cells #[.int .i32 r2, .int .i64 h2] 61) := hWB ▸ alloc_last _ _ _ rfl
          clear hWB
          have y0 : WB.cell? ⟨wr.heap.size, 0, none⟩ = some (.int .i32 r2) := by rw [Lib.cell_of_heap hbx]; rfl
          have y1 : WB.cell? ⟨wr.heap.size, 1, none⟩ = some (.int .i64 h2) := by rw [Lib.cell_of_heap hbx]; rfl
          have e3' := (hB1.cell (p := ⟨g2, off2 + i * 2, none⟩) (by simp only; omega)).trans e3
          have e4' := (hB1.cell (p := ⟨g2, off2 + i * 2 + 1, none⟩) (by simp only; omega)).trans e4
          have q1 : (r2 != r2) = false := by simp
          have q2 : (h2 != h2) = false := by simp
          have hBB := hB.trans (hB1.mono hBs)
          clear hbx hB1 e3 e4
          go_quiet (fail)
          go_wp2_with fail
          go_roundw
          case rel => exact ⟨i + 1, by go_num, by omega, below_drewN hBB _⟩
          case measure => simp [RowKit.intOf]; omega
    · have b1 : ¬ (i : Int) < (n2 : Int) := by omega
      go_wp2_with fail
      go_ret
      exact ⟨rfl, hb5.trans (hB.mono hb5.size)⟩
end Go.Proofs.YtggdocnnbgcniaaGreatDoor
