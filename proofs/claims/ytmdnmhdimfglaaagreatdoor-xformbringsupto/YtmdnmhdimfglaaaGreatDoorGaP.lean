import Derived.Test.YtmdnmhdimfglaaaGreatDoorGaB
import Derived.Test.YtmdnmhdimfglaaaGreatDoorGaS
import Derived.Deep.RegionHeld3
namespace Go.Proofs.YtmdnmhdimfglaaaGreatDoor.Sp
open Go.RowKit Go.Lib
set_option maxRecDepth 100000
def flatI (ys : List Int) : List Value := ys.map (Value.int .i64)
structure RngI (w : World) (a : Option Addr) (n cap : Nat) (ys : List Int) : Prop where
  len : ys.length = n
  room : n ≤ cap ∧ cap ≤ maxLen
  cells : ∀ j, j < n → ∃ g off, a = some ⟨g, off, none⟩ ∧ g < w.heap.size ∧ w.cell? ⟨g, off + j, none⟩ = some (.int .i64 (ys.getD j 0))
theorem RngI.under {w : World} {a : Option Addr} {n cap : Nat} {ys : List Int} (h : RngI w a n cap ys) : Under w.heap.size a n := fun hn g off ha => by
  obtain ⟨g', off', ha', hg, _⟩ := h.cells 0 hn
  rw [ha] at ha'
  cases ha'
  exact hg
theorem RngI.belowB {B : Nat} {w w' : World} {a : Option Addr} {n cap : Nat} {ys : List Int} (h : RngI w a n cap ys) (hu : Under B a n) (hb : Below B w w') : RngI w' a n cap ys :=
  ⟨h.len, h.room, fun j hj => by
    obtain ⟨g, off, ha, hg, hc⟩ := h.cells j hj
    have hlt := hu (by omega) g off ha
    exact ⟨g, off, ha, by have := hb.size; omega, (hb.cell (p := ⟨g, off + j, none⟩) hlt).trans hc⟩⟩
theorem RngI.below {w w' : World} {a : Option Addr} {n cap : Nat} {ys : List Int} (h : RngI w a n cap ys) (hb : Below w.heap.size w w') : RngI w' a n cap ys := h.belowB h.under hb
def OwnI (w : World) (B : Nat) (v : Value) (ys : List Int) : Prop := w.ownsRow B 3 1 v ys.length (flatI ys)
theorem ownI_nil (w : World) (B : Nat) : OwnI w B (.slice none 0 0) [] := World.ownsRow_nil w B _ _
theorem OwnI.shape {w : World} {B : Nat} {v : Value} {l : List Int} (h : OwnI w B v l) : ∃ a cap, v = .slice a l.length cap := by
  rcases h.2 with ⟨e, h0⟩ | ⟨g, cap, cur, e, _⟩
  · exact ⟨none, 0, by rw [e, h0]⟩
  · exact ⟨_, _, e⟩
theorem OwnI.below {w w' : World} {B : Nat} {v : Value} {l : List Int} (h : OwnI w B v l) (hb : Below w.heap.size w w') : OwnI w' B v l := by
  refine ⟨h.1, ?_⟩
  rcases h.2 with h0 | ⟨g, cap, cur, e, h1, hh, rest⟩
  · exact .inl h0
  · exact .inr ⟨g, cap, cur, e, h1, (hb.block g (Array.getElem?_eq_some_iff.1 hh).1).trans hh, rest⟩
theorem OwnI.mono {w : World} {B C : Nat} {v : Value} {l : List Int} (h : OwnI w B v l) (hC : C ≤ B) : OwnI w C v l := by
  refine ⟨h.1, ?_⟩
  rcases h.2 with h0 | ⟨g, cap, cur, e, h1, rest⟩
  · exact .inl h0
  · exact .inr ⟨g, cap, cur, e, by omega, rest⟩
theorem OwnI.rng {w : World} {B n cap : Nat} {a : Option Addr} {l : List Int} (h : OwnI w B (.slice a n cap) l) : RngI w a n cap l := by
  rcases h.2 with ⟨e, h0⟩ | ⟨g, cap', cur, e, _, hh, hn, hm, hsz, htk⟩
  · simp only [Value.slice.injEq] at e
    obtain ⟨rfl, rfl, rfl⟩ := e
    exact ⟨h0, ⟨Nat.le_refl _, Nat.zero_le _⟩, fun j hj => by omega⟩
  · simp only [Value.slice.injEq] at e
    obtain ⟨rfl, rfl, rfl⟩ := e
    refine ⟨rfl, ⟨hn, hm⟩, fun j hj => ⟨g, 0, rfl, (Array.getElem?_eq_some_iff.1 hh).1, ?_⟩⟩
    rw [Nat.zero_add]
    have e1 : cur.toList[j]? = (flatI l)[j]? := by rw [← htk, List.getElem?_take, if_pos (by omega)]
    simp only [World.cell?, hh]
    simp only [Array.getElem?_toList] at e1
    rw [e1]
    simp [flatI, List.getElem?_eq_getElem hj, List.getD_eq_getElem?_getD]
theorem intInfo : (Tryz.prog.info? 3).map (fun i => (i.zero, i.size, i.bytes)) = some (some (.int .i64 0), 1, 8) := by kernel_rfl
theorem flatI_one (l : List Int) : ∀ u ∈ flatI l, u.oneCell' = true := fun u hu => by
  obtain ⟨x, _, rfl⟩ := List.mem_map.1 hu
  rfl
theorem appendI {w : World} {B : Nat} {a : Option Addr} {n cap : Nat} {xs : List Int} (h : OwnI w B (.slice a n cap) xs) (hB : B ≤ w.heap.size) {b : Option Addr} {m capb : Nat} {ys : List Int} (hy : RngI w b m capb ys) (hs : (n + m) * 8 ≤ 140737488355328) (ty : TypeId) :
    ∃ a' cap' w', (Builtin.append_ #[119, 119] ty #[.slice a n cap, .slice b m capb]).run Tryz.prog w = .ok (.slice a' (n + m) cap') w' ∧ OwnI w' B (.slice a' (n + m) cap') (xs ++ ys) ∧ Below B w w' := by
  have hlen := h.rng.len
  have hly := hy.len
  obtain ⟨i, hi, hz, hsz, hby⟩ := info_parts intInfo
  have hown : w.ownsRow B 3 1 (.slice a n cap) n (flatI xs) := by
    unfold OwnI at h
    rw [hlen] at h
    exact h
  by_cases h0 : m = 0
  · subst h0
    obtain rfl : ys = [] := List.eq_nil_of_length_eq_zero hly
    refine ⟨a, cap, w, ?_, by simpa using h, Below.refl _ _⟩
    rcases hown.2 with ⟨e, _⟩ | ⟨g, cap', cur, e, _, _, hnc, _⟩
    · simp only [Value.slice.injEq] at e
      obtain ⟨rfl, rfl, rfl⟩ := e
      cases b <;> simp [Builtin.append_, run_underlying Tryz.underlying119, sizeOf, typeInfo, hi, Builtin.lenOf, Builtin.firstCells, loadCells, loadCellsFrom]
    · simp only [Value.slice.injEq] at e
      obtain ⟨rfl, _, rfl⟩ := e
      cases b <;> simp [Builtin.append_, run_underlying Tryz.underlying119, sizeOf, typeInfo, hi, Builtin.lenOf, Builtin.firstCells, loadCells, loadCellsFrom, hnc, storeCells]
  · obtain ⟨g, off, rfl, hg, _⟩ := hy.cells 0 (by omega)
    have hc : ∀ j u, (flatI ys)[j]? = some u → w.cell? ((⟨g, off, none⟩ : Addr).add j) = some u := fun j u hu => by
      have hadd : (⟨g, off, none⟩ : Addr).add j = ⟨g, off + j, none⟩ := by unfold Addr.add; split <;> simp_all
      have hlt : j < (flatI ys).length := by
        rcases Nat.lt_or_ge j (flatI ys).length with h' | h'
        · exact h'
        · rw [List.getElem?_eq_none h'] at hu; cases hu
      have hlt' : j < ys.length := by simpa [flatI] using hlt
      obtain ⟨g', off', e, _, hc⟩ := hy.cells j (by omega)
      cases e
      rw [hadd, hc, ← hu]
      simp [flatI, List.getElem?_eq_getElem hlt', List.getD_eq_getElem?_getD]
    obtain ⟨v', w', hr, ho, hgr, _⟩ := run_append_own (P := Tryz.prog) w B 119 ty 3 i _ 1 8 Tryz.underlying119 hi hz hsz hby rfl (by decide) (.slice a n cap) n (flatI xs) hown ⟨g, off, none⟩ m capb (flatI ys) (by simp [flatI, hly]) hc (flatI_one ys)
      (by simp only [maxLen]; omega) hs hB
    have ho' : OwnI w' B v' (xs ++ ys) := by
      unfold OwnI
      rw [List.length_append, hlen, hly]
      simpa [flatI] using ho
    obtain ⟨a', cap', rfl⟩ := ho'.shape
    have e1 : (xs ++ ys).length = n + m := by simp [hlen, hly]
    rw [e1] at hr ho'
    exact ⟨a', cap', w', hr, ho', below_grown hgr (fun k hk => (World.ownsRow.lt hown k hk).1) hB⟩
theorem rngI_lit1 (w : World) (x : Int) (t : TypeId) : RngI (w.alloc (.cells #[.int .i64 x] t)) (some ⟨w.heap.size, 0, none⟩) 1 1 [x] := by
  refine ⟨rfl, ⟨Nat.le_refl _, by simp [maxLen]⟩, fun j hj => ⟨w.heap.size, 0, rfl, by simp, ?_⟩⟩
  obtain rfl : j = 0 := by omega
  have hh := heap_alloc_new w (.cells #[.int .i64 x] t)
  simp only [World.cell?, hh]
  rfl
theorem appendI_one {w : World} {B : Nat} {a : Option Addr} {n cap : Nat} {xs : List Int} (h : OwnI w B (.slice a n cap) xs) (hB : B ≤ w.heap.size) (x : Int) (hs : (n + 1) * 8 ≤ 140737488355328) (ty : TypeId) :
    ∃ a' cap' w', (Builtin.append_ #[119, 119] ty #[.slice a n cap, .slice (some ⟨w.heap.size, 0, none⟩) 1 1]).run Tryz.prog (w.alloc (.cells #[.int .i64 x] 3)) = .ok (.slice a' (n + 1) cap') w' ∧ OwnI w' B (.slice a' (n + 1) cap') (xs ++ [x]) ∧ Below B w w' := by
  obtain ⟨a', cap', w', hr, ho, hb⟩ := appendI (h.below ((Below.refl _ _).alloc (Nat.le_refl _) (.cells #[.int .i64 x] 3))) (by simp; omega) (rngI_lit1 w x 3) hs ty
  exact ⟨a', cap', w', hr, ho, ((Below.refl _ _).alloc hB _).trans hb⟩
end Go.Proofs.YtmdnmhdimfglaaaGreatDoor.Sp

namespace Go.Proofs.YtmdnmhdimfglaaaGreatDoor.Sp
open Go.RowKit Go.Lib
set_option maxRecDepth 100000
def Asc (l : List Int) : Prop := l.Pairwise (· ≤ ·)
theorem rngI_take {w : World} {a : Option Addr} {n cap : Nat} {xs : List Int} (h : RngI w a n cap xs) (k : Nat) (hk : k ≤ n) : RngI w a k cap (xs.take k) := by
  have hlen := h.len
  have hroom := h.room
  refine ⟨by simp; omega, by omega, fun j hj => ?_⟩
  obtain ⟨g, off, ha, hg, hc⟩ := h.cells j (by omega)
  refine ⟨g, off, ha, hg, hc.trans ?_⟩
  simp [List.getD_eq_getElem?_getD, hj]
theorem rngI_drop {w : World} {g off n cap : Nat} {xs : List Int} (h : RngI w (some ⟨g, off, none⟩) n cap xs) (k : Nat) (hk : k ≤ n) : RngI w (some ⟨g, off + k, none⟩) (n - k) (cap - k) (xs.drop k) := by
  have hlen := h.len
  have hroom := h.room
  refine ⟨by simp; omega, by omega, fun j hj => ?_⟩
  obtain ⟨g', off', ha, hg, hc⟩ := h.cells (k + j) (by omega)
  simp only [Option.some.injEq, Addr.mk.injEq, and_true] at ha
  obtain ⟨rfl, rfl⟩ := ha
  refine ⟨g, off + k, rfl, hg, ?_⟩
  rw [Nat.add_assoc, hc]
  simp [List.getD_eq_getElem?_getD]
theorem elemI : Tryz.prog.elem 119 = 3 := by kernel_rfl
theorem cutI_high (W : World) (a : Option Addr) (n cap k : Nat) (hk : k ≤ cap) : (Instr.slice 119 (.slice a n cap) none (some (.int .i64 (k : Int))) none).run Tryz.prog W = .ok (.slice a k cap) W := by
  obtain ⟨i, hi, hz, hsz, hby⟩ := info_parts intInfo
  have := run_slice_h (P := Tryz.prog) W 119 a n cap (by rw [elemI]; exact Tryz.underlying119) .i64 (k : Int) (by omega) (by omega)
  rw [this, elemI]
  simp [sizeOf, typeInfo, hi, hsz, sliced, Addr.add]
theorem cutI_low (W : World) (g off n cap k : Nat) (hk : k ≤ n) (hc : k < cap) : (Instr.slice 119 (.slice (some ⟨g, off, none⟩) n cap) (some (.int .i64 (k : Int))) none none).run Tryz.prog W = .ok (.slice (some ⟨g, off + k, none⟩) (n - k) (cap - k)) W := by
  obtain ⟨i, hi, hz, hsz, hby⟩ := info_parts intInfo
  have := run_slice_l (P := Tryz.prog) W 119 (some ⟨g, off, none⟩) n cap (by rw [elemI]; exact Tryz.underlying119) .i64 (k : Int) (by omega) (by omega)
  rw [this, elemI]
  simp [sizeOf, typeInfo, hi, hsz, sliced, Addr.add]
  rw [if_neg (by omega)]
  split <;> simp_all
theorem makeI (w : World) (n : Nat) (hn : n ≤ 1048576) : ∃ w', (Instr.makeSlice 119 (.int .i64 0) (.int .i64 (n : Int))).run Tryz.prog w = .ok (.slice (some ⟨w.heap.size, 0, none⟩) 0 n) w' ∧ OwnI w' w.heap.size (.slice (some ⟨w.heap.size, 0, none⟩) 0 n) [] ∧ Below w.heap.size w w' := by
  obtain ⟨i, hi, hz, hsz, hby⟩ := info_parts intInfo
  have hr := run_make (P := Tryz.prog) w 119 3 i _ Tryz.underlying119 hi hz .i64 .i64 0 (n : Int) (by omega) (by omega) (by rw [hby]; omega) (by omega)
  refine ⟨_, hr, ?_, (Below.refl _ _).alloc (Nat.le_refl _) _⟩
  have := World.ownsRow_made (base := w.heap.size) (e := 3) (size := 1) w (madeCells (Value.int .i64 0).cells (n * 1)) n (Nat.le_refl _) (by simp only [maxLen]; omega) (by simp [madeCells])
  simp only [hsz, Int.toNat_natCast] at *
  exact this
theorem below_drewN' {B : Nat} {a w : World} (h : Below B a w) (m : Nat) : Below B a (w.drewN m) := h.trans ⟨rfl, rfl, rfl, Nat.le_refl _, fun _ _ => rfl⟩
structure MInv (A B : List Int) (i j : Nat) (out : List Int) : Prop where
  perm : (out ++ (A.drop i ++ B.drop j)).Perm (A ++ B)
  asc : Asc out
  le : ∀ x ∈ out, ∀ y ∈ A.drop i ++ B.drop j, x ≤ y
theorem dropI (l : List Int) (j : Nat) (hj : j < l.length) : l.drop j = l.getD j 0 :: l.drop (j + 1) := by
  rw [List.getD_eq_getElem?_getD, List.getElem?_eq_getElem hj]
  exact List.drop_eq_getElem_cons hj
theorem asc_snoc {out : List Int} {x : Int} (h : Asc out) (hx : ∀ y ∈ out, y ≤ x) : Asc (out ++ [x]) :=
  List.pairwise_append.2 ⟨h, by simp, fun a ha b hb => by simp only [List.mem_singleton] at hb; subst hb; exact hx a ha⟩
theorem MInv.stepA {A B : List Int} {i j : Nat} {out : List Int} (h : MInv A B i j out) (hA : Asc A) (hB : Asc B) (hi : i < A.length) (hj : j < B.length → A.getD i 0 ≤ B.getD j 0) : MInv A B (i + 1) j (out ++ [A.getD i 0]) := by
  have hd := dropI A i hi
  refine ⟨?_, asc_snoc h.asc (fun y hy => h.le y hy _ (by rw [hd]; simp)), fun x hx y hy => ?_⟩
  · have := h.perm
    rw [hd] at this
    simpa using this
  · rcases List.mem_append.1 hx with hx | hx
    · exact h.le x hx y (by rw [hd]; rcases List.mem_append.1 hy with hy | hy <;> simp [hy])
    · simp only [List.mem_singleton] at hx
      subst hx
      rcases List.mem_append.1 hy with hy | hy
      · have := hA.drop (i := i)
        rw [hd] at this
        exact (List.pairwise_cons.1 this).1 y hy
      · by_cases hjl : j < B.length
        · have h1 := hj hjl
          have := hB.drop (i := j)
          rw [dropI B j hjl] at this hy
          rcases List.mem_cons.1 hy with rfl | hy
          · exact h1
          · have := (List.pairwise_cons.1 this).1 y hy
            omega
        · rw [List.drop_eq_nil_of_le (by omega)] at hy
          cases hy
theorem MInv.stepB {A B : List Int} {i j : Nat} {out : List Int} (h : MInv A B i j out) (hA : Asc A) (hB : Asc B) (hj : j < B.length) (hi : i < A.length → B.getD j 0 ≤ A.getD i 0) : MInv A B i (j + 1) (out ++ [B.getD j 0]) := by
  have hd := dropI B j hj
  refine ⟨?_, asc_snoc h.asc (fun y hy => h.le y hy _ (by rw [hd]; simp)), fun x hx y hy => ?_⟩
  · have := h.perm
    rw [hd] at this
    refine List.Perm.trans ?_ this
    rw [List.append_assoc]
    refine List.Perm.append_left _ ?_
    exact (List.perm_middle (l₁ := A.drop i) (a := B.getD j 0) (l₂ := B.drop (j + 1))).symm
  · rcases List.mem_append.1 hx with hx | hx
    · exact h.le x hx y (by rw [hd]; rcases List.mem_append.1 hy with hy | hy <;> simp [hy])
    · simp only [List.mem_singleton] at hx
      subst hx
      rcases List.mem_append.1 hy with hy | hy
      · by_cases hil : i < A.length
        · have h1 := hi hil
          have := hA.drop (i := i)
          rw [dropI A i hil] at this hy
          rcases List.mem_cons.1 hy with rfl | hy
          · exact h1
          · have := (List.pairwise_cons.1 this).1 y hy
            omega
        · rw [List.drop_eq_nil_of_le (by omega)] at hy
          cases hy
      · have := hB.drop (i := j)
        rw [hd] at this
        exact (List.pairwise_cons.1 this).1 y hy
set_option maxHeartbeats 4000000 in
theorem sorted_any (n : Nat) : ∀ {w : World} {a : Option Addr} {cap : Nat} {xs : List Int}, RngI w a n cap xs → n ≤ 1048576 →
    Calls Tryz.prog 100 #[.slice a n cap] w fun e w' => ∃ a' cap' ys, e = .returned (.slice a' n cap') ∧ OwnI w' w.heap.size (.slice a' n cap') ys ∧ Below w.heap.size w w' ∧ Hid (ys.Perm xs ∧ Asc ys) := by
  induction n using Nat.strongRecOn with
  | _ n ih =>
    intro w a cap xs h hn
    have hlen := h.len
    have hroom := h.room
    by_cases h2 : n < 2
    · obtain ⟨a', cap', w', hr, ho, hb⟩ := appendI (ownI_nil w w.heap.size) (Nat.le_refl _) h (by omega) 119
      simp only [Nat.zero_add, List.nil_append] at hr ho
      have HP : Hid (xs.Perm xs ∧ Asc xs) := ⟨List.Perm.refl _, by
        match xs, hlen with
        | [], _ => exact List.Pairwise.nil
        | [x], _ => simp [Asc]
        | x :: y :: t, hl => simp at hl; omega⟩
      clear ih h
      go_enter Tryz.func100, Tryz.ntmps100
      go_wp2_with (at_builtin; refine wpList_append_hr rfl _ _ 119 rfl _ _ rfl rfl hr ?_)
      go_ret
      exact ⟨_, _, _, rfl, ho, hb, HP⟩
    · obtain ⟨g, off, rfl, hg, _⟩ := h.cells 0 (by omega)
      have hc1 := fun W => cutI_high W (some ⟨g, off, none⟩) n cap (n / 2) (by omega)
      have hc2 := fun W => cutI_low W g off n cap (n / 2) (by omega) (by omega)
      have HI1 : Hid (∀ W, Below w.heap.size w W → Calls Tryz.prog 100 #[.slice (some ⟨g, off, none⟩) (n / 2) cap] W _) := fun W hb => ih (n / 2) (by omega) ((rngI_take h (n / 2) (by omega)).below hb) (by omega)
      have HI2 : Hid (∀ W, Below w.heap.size w W → Calls Tryz.prog 100 #[.slice (some ⟨g, off + n / 2, none⟩) (n - n / 2) (cap - n / 2)] W _) := fun W hb => ih (n - n / 2) (by omega) ((rngI_drop h (n / 2) (by omega)).below hb) (by omega)
      clear ih
      go_enter Tryz.func100, Tryz.ntmps100
      go_wp2_with fail
      refine (HI1.out _ (Below.refl _ _)).mono ?_
      rintro e w1 ⟨aa, ca, As, rfl, hoA, hb1, HA⟩
      go_wp2_with fail
      refine (HI2.out _ hb1).mono ?_
      rintro e w2 ⟨ab, cb, Bs, rfl, hoB, hb2, HB⟩
      obtain ⟨w3, hmk, hoO, hb3⟩ := makeI w2 n hn
      have hB2 := hb1.trans (hb2.mono hb1.size)
      have hrA := (hoA.below hb2).rng
      have hrB := hoB.rng
      have hlA := hrA.len
      have hlB := hrB.len
      have hpr : n / 2 + (n - n / 2) = n := by omega
      have HXS : Hid (∀ A B : List Int, A.Perm (xs.take (n / 2)) → B.Perm (xs.drop (n / 2)) → (A ++ B).Perm xs) := fun A B h1 h2 => by
        have := h1.append h2
        rwa [List.take_append_drop] at this
      have HP : Hid ((As ++ Bs).Perm xs) := HXS.out As Bs HA.out.1 HB.out.1
      have HSA : Hid (Asc As) := HA.out.2
      have HSB : Hid (Asc Bs) := HB.out.2
      have HM0 : Hid (MInv As Bs 0 0 []) := ⟨by simp, List.Pairwise.nil, fun x hx => by cases hx⟩
      clear HI1 HI2 hc1 hc2 hoA hoB hb1 hb2 HXS HA HB
      generalize n / 2 = p at *
      generalize n - p = r at *
      have hpI : (p : Int) + r = n := by omega
      go_wp2_with fail
      go_loopw [5, 6, 7] (fun vo vi vj w' => ∃ (i j : Nat) (o : Option Addr) (no co : Nat) (out : List Int), i ≤ p ∧ j ≤ r ∧ no = i + j ∧ vi = .int .i64 i ∧ vj = .int .i64 j ∧ vo = .slice o no co ∧ OwnI w' w2.heap.size (.slice o no co) out ∧ Below w2.heap.size w2 w' ∧ Hid (MInv As Bs i j out)) (fun _ vi vj _ => p - (RowKit.intOf vi).toNat + (r - (RowKit.intOf vj).toNat))
      case atStart => exact ⟨0, 0, _, 0, _, [], Nat.zero_le _, Nat.zero_le _, rfl, rfl, rfl, rfl, hoO, hb3, HM0⟩
      case round =>
        clear hoO hb3 HM0 hmk
        obtain ⟨i, j, o, no, co, out, hi, hj, rfl, rfl, rfl, rfl, ho, hb, HM⟩ := hrel
        have hsz := hb.size
        by_cases hi' : i < p
        · obtain ⟨ga, oa, rfl, hga, hca⟩ := hrA.cells i hi'
          have c0 := (hb.cell (p := ⟨ga, oa + i, none⟩) hga).trans hca
          by_cases hj' : j < r
          · obtain ⟨gb, ob, rfl, hgb, hcb⟩ := hrB.cells j hj'
            have c2 := (hb.cell (p := ⟨gb, ob + j, none⟩) hgb).trans hcb
            have d1 : decide ((r : Int) ≤ (j : Int)) = false := decide_eq_false (by omega)
            have d2 : (i : Int) < (p : Int) := by omega
            have d4 : (j : Int) < (r : Int) := by omega
            by_cases hxy : As.getD i 0 ≤ Bs.getD j 0
            · have HM2 : Hid (MInv As Bs (i + 1) j (out ++ [As.getD i 0])) := HM.out.stepA HSA.out HSB.out (by omega) (fun _ => hxy)
              have HAP := fun q => appendI_one (w := wr.drewN q) (B := w2.heap.size) (ho.below (below_drewN' (Below.refl _ _) q)) hsz (As.getD i 0) (by omega) 119
              have d3 : As.getD i 0 ≤ Bs.getD j 0 := hxy
              clear HM hca hcb
              generalize As.getD i 0 = x at *
              generalize Bs.getD j 0 = y at *
              go_wp2_with fail
              go_quiet (fail)
              obtain ⟨a1, c1, w4, hr, ho4, hb4⟩ := HAP nq
              have hB4 := (below_drewN' hb nq).trans hb4
              clear HAP
              go_wp2_with (at_builtin; refine wpList_append_hr rfl _ _ 119 rfl _ _ rfl rfl hr ?_)
              go_roundw
              case rel => exact ⟨i + 1, j, a1, _, c1, _, by omega, by omega, rfl, by go_num, rfl, by rw [show i + 1 + j = i + j + 1 by omega], by rw [show i + 1 + j = i + j + 1 by omega]; exact ho4, hB4, HM2⟩
              case measure => simp [RowKit.intOf]; omega
            · have HM2 : Hid (MInv As Bs i (j + 1) (out ++ [Bs.getD j 0])) := HM.out.stepB HSA.out HSB.out (by omega) (fun _ => by omega)
              have HAP := fun q => appendI_one (w := wr.drewN q) (B := w2.heap.size) (ho.below (below_drewN' (Below.refl _ _) q)) hsz (Bs.getD j 0) (by omega) 119
              have d3 : decide (As.getD i 0 ≤ Bs.getD j 0) = false := decide_eq_false hxy
              clear HM hca hcb hxy
              generalize As.getD i 0 = x at *
              generalize Bs.getD j 0 = y at *
              go_wp2_with fail
              go_quiet (fail)
              obtain ⟨a1, c1, w4, hr, ho4, hb4⟩ := HAP nq
              have hB4 := (below_drewN' hb nq).trans hb4
              clear HAP
              go_wp2_with (at_builtin; refine wpList_append_hr rfl _ _ 119 rfl _ _ rfl rfl hr ?_)
              go_roundw
              case rel => exact ⟨i, j + 1, a1, _, c1, _, by omega, by omega, rfl, rfl, by go_num, rfl, ho4, hB4, HM2⟩
              case measure => simp [RowKit.intOf]; omega
          · have HM2 : Hid (MInv As Bs (i + 1) j (out ++ [As.getD i 0])) := HM.out.stepA HSA.out HSB.out (by omega) (fun h => by omega)
            have HAP := fun q => appendI_one (w := wr.drewN q) (B := w2.heap.size) (ho.below (below_drewN' (Below.refl _ _) q)) hsz (As.getD i 0) (by omega) 119
            have d1 : (r : Int) ≤ (j : Int) := by omega
            have d2 : (i : Int) < (p : Int) := by omega
            clear HM hca
            generalize As.getD i 0 = x at *
            go_wp2_with fail
            go_quiet (fail)
            obtain ⟨a1, c1, w4, hr, ho4, hb4⟩ := HAP nq
            have hB4 := (below_drewN' hb nq).trans hb4
            clear HAP
            go_wp2_with (at_builtin; refine wpList_append_hr rfl _ _ 119 rfl _ _ rfl rfl hr ?_)
            go_roundw
            case rel => exact ⟨i + 1, j, a1, _, c1, _, by omega, by omega, rfl, by go_num, rfl, by rw [show i + 1 + j = i + j + 1 by omega], by rw [show i + 1 + j = i + j + 1 by omega]; exact ho4, hB4, HM2⟩
            case measure => simp [RowKit.intOf]; omega
        · have d2 : decide ((i : Int) < (p : Int)) = false := decide_eq_false (by omega)
          by_cases hj' : j < r
          · obtain ⟨gb, ob, rfl, hgb, hcb⟩ := hrB.cells j hj'
            have c2 := (hb.cell (p := ⟨gb, ob + j, none⟩) hgb).trans hcb
            have HM2 : Hid (MInv As Bs i (j + 1) (out ++ [Bs.getD j 0])) := HM.out.stepB HSA.out HSB.out (by omega) (fun h => by omega)
            have HAP := fun q => appendI_one (w := wr.drewN q) (B := w2.heap.size) (ho.below (below_drewN' (Below.refl _ _) q)) hsz (Bs.getD j 0) (by omega) 119
            have d1 : decide ((r : Int) ≤ (j : Int)) = false := decide_eq_false (by omega)
            have d4 : (j : Int) < (r : Int) := by omega
            clear HM hcb
            generalize Bs.getD j 0 = y at *
            go_wp2_with fail
            have e1 : decide ((r : Int) ≤ (j : Int)) = false := decide_eq_false (by omega)
            have e2 : decide ((i : Int) < (p : Int)) = false := decide_eq_false (by omega)
            have e3 : decide (r ≤ j) = false := decide_eq_false (by omega)
            have e4 : decide (i < p) = false := decide_eq_false (by omega)
            go_quiet (fail)
            obtain ⟨a1, c1, w4, hr, ho4, hb4⟩ := HAP nq
            have hB4 := (below_drewN' hb nq).trans hb4
            clear HAP
            go_wp2_with (at_builtin; refine wpList_append_hr rfl _ _ 119 rfl _ _ rfl rfl hr ?_)
            go_roundw
            case rel => exact ⟨i, j + 1, a1, _, c1, _, by omega, by omega, rfl, rfl, by go_num, rfl, ho4, hB4, HM2⟩
            case measure => simp [RowKit.intOf]; omega
          · have d4 : decide ((j : Int) < (r : Int)) = false := decide_eq_false (by omega)
            have hM := HM.out
            have hij : i + j = n := by omega
            have HF : Hid (out.Perm xs ∧ Asc out) := by
              refine ⟨?_, hM.asc⟩
              have := hM.perm
              rw [List.drop_eq_nil_of_le (by omega), List.drop_eq_nil_of_le (by omega), List.append_nil, List.append_nil] at this
              exact this.trans HP.out
            rw [hij] at ho
            clear hM HM
            go_wp2_with fail
            go_ret
            exact ⟨_, _, out, by rw [← hij]; rfl, ho.mono hB2.size, hB2.trans (hb.mono hB2.size), HF⟩
end Go.Proofs.YtmdnmhdimfglaaaGreatDoor.Sp

namespace Go.Proofs.YtmdnmhdimfglaaaGreatDoor.Sp
def Piece (cuts : List Int) (k : Nat) (q : Int) : Prop := k + 1 < cuts.length ∧ cuts.getD k 0 ≤ q ∧ q < cuts.getD (k + 1) 0
theorem asc_get {cuts : List Int} (h : cuts.Pairwise (· ≤ ·)) {i j : Nat} (hij : i ≤ j) (hj : j < cuts.length) : cuts.getD i 0 ≤ cuts.getD j 0 := by
  rcases Nat.lt_or_ge i j with hlt | hge
  · have := List.pairwise_iff_getElem.1 h i j (by omega) hj hlt
    simpa [List.getD_eq_getElem?_getD, hj, show i < cuts.length by omega] using this
  · have : i = j := by omega
    subst this
    exact Int.le_refl _
theorem mem_get {cuts : List Int} {x : Int} (h : x ∈ cuts) : ∃ i, i < cuts.length ∧ cuts.getD i 0 = x := by
  obtain ⟨i, hi, rfl⟩ := List.getElem_of_mem h
  exact ⟨i, hi, by simp [List.getD_eq_getElem?_getD, hi]⟩
theorem get_mem {cuts : List Int} {i : Nat} (h : i < cuts.length) : cuts.getD i 0 ∈ cuts := by
  rw [List.getD_eq_getElem?_getD, List.getElem?_eq_getElem h]
  exact List.getElem_mem _
theorem last_cut {cuts : List Int} (hs : cuts.Pairwise (· ≤ ·)) {q : Int} (h1 : ∃ x ∈ cuts, x ≤ q) (h2 : ∃ x ∈ cuts, q < x) : ∃ k, Piece cuts k q := by
  obtain ⟨x, hx, hxq⟩ := h1
  obtain ⟨y, hy, hqy⟩ := h2
  obtain ⟨i, hi, rfl⟩ := mem_get hx
  obtain ⟨j, hj, rfl⟩ := mem_get hy
  have key : ∀ d i, i + d = j → cuts.getD i 0 ≤ q → ∃ k, Piece cuts k q := by
    intro d
    induction d with
    | zero => intro i e h; rw [Nat.add_zero] at e; subst e; omega
    | succ d ih =>
      intro i e h
      by_cases hn : cuts.getD (i + 1) 0 ≤ q
      · exact ih (i + 1) (by omega) hn
      · exact ⟨i, by omega, h, by omega⟩
  have hij : i ≤ j := by
    rcases Nat.lt_or_ge j i with h | h
    · have := asc_get hs (Nat.le_of_lt h) hi; omega
    · exact h
  exact key (j - i) i (by omega) hxq
theorem pieces_all {cuts : List Int} {S : Int → Prop} {I : Nat → Prop} (hs : cuts.Pairwise (· ≤ ·)) (hI : ∀ k, k + 1 < cuts.length → (I k ↔ S (cuts.getD k 0)))
    (H1 : ∀ c q, c ≤ q → (∀ x ∈ cuts, ¬ (c < x ∧ x ≤ q)) → (S c ↔ S q)) (H2 : ∀ q, S q → (∃ x ∈ cuts, x ≤ q) ∧ ∃ x ∈ cuts, q < x) (q : Int) : (∃ k, I k ∧ Piece cuts k q) ↔ S q := by
  have key : ∀ k, Piece cuts k q → ∀ x ∈ cuts, ¬ (cuts.getD k 0 < x ∧ x ≤ q) := fun k hk x hx hh => by
    obtain ⟨i, hi, rfl⟩ := mem_get hx
    rcases Nat.lt_or_ge k i with h | h
    · have := asc_get hs (show k + 1 ≤ i by omega) hi
      have := hk.2.2
      omega
    · have := asc_get hs h (by have := hk.1; omega)
      omega
  constructor
  · rintro ⟨k, hk, hp⟩
    exact (H1 _ q hp.2.1 (key k hp)).1 ((hI k hp.1).1 hk)
  · intro hq
    obtain ⟨k, hp⟩ := last_cut hs (H2 q hq).1 (H2 q hq).2
    exact ⟨k, (hI k hp.1).2 ((H1 _ q hp.2.1 (key k hp)).2 hq), hp⟩
theorem lies_same {l : List (Int × Int)} {cuts : List Int} (hm : ∀ r ∈ l, r.1 ∈ cuts ∧ r.2 ∈ cuts) {c q : Int} (hcq : c ≤ q) (h : ∀ x ∈ cuts, ¬ (c < x ∧ x ≤ q)) : Lies l c ↔ Lies l q := by
  constructor
  · rintro ⟨r, hr, h1, h2⟩
    refine ⟨r, hr, by omega, ?_⟩
    have := h r.2 (hm r hr).2
    omega
  · rintro ⟨r, hr, h1, h2⟩
    refine ⟨r, hr, ?_, by omega⟩
    have := h r.1 (hm r hr).1
    omega
def atMost (l : List Int) (x : Int) : Nat := (l.filter (fun y => decide (y ≤ x))).length
theorem atMost_perm {k l : List Int} (h : k.Perm l) (x : Int) : atMost k x = atMost l x := (h.filter _).length_eq
theorem open_iff {l : List (Int × Int)} (hl : ∀ r ∈ l, r.1 ≤ r.2) (c : Int) : atMost (l.map (·.2)) c ≤ atMost (l.map (·.1)) c ∧ (atMost (l.map (·.2)) c < atMost (l.map (·.1)) c ↔ Lies l c) := by
  induction l with
  | nil => simp [atMost, lies_nil]
  | cons r t ih =>
    obtain ⟨i1, i2⟩ := ih (fun x hx => hl x (List.mem_cons_of_mem _ hx))
    have hr := hl r List.mem_cons_self
    have e : ∀ (f : Int × Int → Int), atMost ((r :: t).map f) c = (if f r ≤ c then 1 else 0) + atMost (t.map f) c := fun f => by
      simp only [atMost, List.map_cons, List.filter_cons]
      split <;> split <;> simp_all <;> omega
    rw [e, e, lies_cons, ← i2]
    by_cases h1 : r.1 ≤ c <;> by_cases h2 : r.2 ≤ c
    · rw [if_pos h1, if_pos h2]; constructor; omega; constructor; (intro h; exact .inr (by omega)); (rintro (h | h); omega; omega)
    · rw [if_pos h1, if_neg h2]; constructor; omega; constructor; (intro _; exact .inl ⟨h1, by omega⟩); (intro _; omega)
    · omega
    · rw [if_neg h1, if_neg h2]; constructor; omega; constructor; (intro h; exact .inr (by omega)); (rintro (h | h); omega; omega)
theorem atMost_asc {l : List Int} {x : Int} {k : Nat} (hk : k ≤ l.length) (h1 : ∀ i, i < k → l.getD i 0 ≤ x) (h2 : ∀ i, k ≤ i → i < l.length → x < l.getD i 0) : atMost l x = k := by
  have e : l = l.take k ++ l.drop k := (List.take_append_drop k l).symm
  unfold atMost
  rw [e, List.filter_append, List.length_append, List.filter_eq_self.2 (fun y hy => ?_), List.filter_eq_nil_iff.2 (fun y hy => ?_)]
  · simp; omega
  · obtain ⟨i, hi, rfl⟩ := List.getElem_of_mem hy
    have hi' : i < l.length - k := by simpa using hi
    have := h2 (k + i) (by omega) (by omega)
    simp only [List.getD_eq_getElem?_getD, List.getElem?_eq_getElem (show k + i < l.length by omega), Option.getD_some] at this
    simp only [List.getElem_drop, decide_eq_true_eq]
    omega
  · obtain ⟨i, hi, rfl⟩ := List.getElem_of_mem hy
    have hi' : i < k := by simp at hi; omega
    have := h1 i hi'
    simp only [List.getD_eq_getElem?_getD, List.getElem?_eq_getElem (show i < l.length by omega), Option.getD_some] at this
    simp only [List.getElem_take, decide_eq_true_eq]
    exact this
end Go.Proofs.YtmdnmhdimfglaaaGreatDoor.Sp

namespace Go.Proofs.YtmdnmhdimfglaaaGreatDoor.Sp
open Go.RowKit Go.Lib
set_option maxRecDepth 100000
set_option maxHeartbeats 1000000 in
theorem refUpTo_any {w : World} {a : Option Addr} {n cap : Nat} {ys : List Int} (h : RngI w a n cap ys) (hs : Asc ys) (x : Int) :
    Calls Tryz.prog 101 #[.slice a n cap, .int .i64 x] w fun e w' => e = .returned (.int .i64 (atMost ys x)) ∧ w' = w := by
  have hln := h.len
  have hnb : n ≤ 9223372036854775807 := by have := h.room; simp only [maxLen] at this; omega
  obtain ⟨r, hr⟩ : ∃ r, atMost ys x = r := ⟨_, rfl⟩
  have HR : Hid (atMost ys x = r) := hr
  rw [hr]
  clear hr
  go_enter Tryz.func101, Tryz.ntmps101
  go_wp2_with fail
  go_loop [5, 6] (fun lo hi => ∃ l k : Nat, l ≤ k ∧ k ≤ n ∧ lo = .int .i64 l ∧ hi = .int .i64 k ∧ Hid ((∀ i, i < l → ys.getD i 0 ≤ x) ∧ ∀ i, k ≤ i → i < n → x < ys.getD i 0)) (fun lo hi => (intOf hi).toNat - (intOf lo).toNat)
  case atStart => exact ⟨0, n, Nat.zero_le _, Nat.le_refl _, rfl, rfl, fun i hi => by omega, fun i h1 h2 => by omega⟩
  case round =>
    obtain ⟨l, k, hlk, hkn, rfl, rfl, HE⟩ := hrel
    by_cases hlt : l < k
    · obtain ⟨g, off, rfl, hg, hc⟩ := h.cells (l + (k - l) / 2) (by omega)
      by_cases hx : ys.getD (l + (k - l) / 2) 0 ≤ x
      · have HE2 : Hid ((∀ i, i < l + (k - l) / 2 + 1 → ys.getD i 0 ≤ x) ∧ ∀ i, k ≤ i → i < n → x < ys.getD i 0) :=
          ⟨fun i hi => Int.le_trans (asc_get hs (by omega) (by omega)) hx, HE.out.2⟩
        generalize ys.getD (l + (k - l) / 2) 0 = y at *
        clear HE
        go_wp2_with fail
        go_round
        case rel => exact ⟨l + (k - l) / 2 + 1, k, by omega, hkn, by go_num, rfl, HE2⟩
        case measure => simp only [intOf]; omega
      · have HE2 : Hid ((∀ i, i < l → ys.getD i 0 ≤ x) ∧ ∀ i, l + (k - l) / 2 ≤ i → i < n → x < ys.getD i 0) :=
          ⟨HE.out.1, fun i h1 h2 => Int.lt_of_lt_of_le (by omega) (asc_get hs h1 (by omega))⟩
        generalize ys.getD (l + (k - l) / 2) 0 = y at *
        clear HE
        go_wp2_with fail
        go_round
        case rel => exact ⟨l, l + (k - l) / 2, by omega, by omega, rfl, by go_num, HE2⟩
        case measure => simp only [intOf]; omega
    · have hr : l = r := by
        rw [← HR.out]
        exact (atMost_asc (by omega) HE.out.1 (fun i h1 h2 => HE.out.2 i (by omega) (by omega))).symm
      subst hr
      clear HE HR
      go_wp2_with fail
      go_ret
      exact ⟨rfl, rfl⟩
end Go.Proofs.YtmdnmhdimfglaaaGreatDoor.Sp

namespace Go.Proofs.YtmdnmhdimfglaaaGreatDoor.Sp
open Go.RowKit Go.Lib
set_option maxRecDepth 100000
theorem pget {l : List (Int × Int)} {i : Nat} (h : i < l.length) : l.getD i (0, 0) = l[i] := by
  rw [List.getD_eq_getElem?_getD, List.getElem?_eq_getElem h]; rfl
end Go.Proofs.YtmdnmhdimfglaaaGreatDoor.Sp

namespace Go.Proofs.YtmdnmhdimfglaaaGreatDoor.Sp
open Go.RowKit Go.Lib
set_option maxRecDepth 100000
structure RngB (w : World) (a : Option Addr) (n cap : Nat) (bs : List Bool) : Prop where
  len : bs.length = n
  room : n ≤ cap ∧ cap ≤ maxLen
  cells : ∀ j, j < n → ∃ g off, a = some ⟨g, off, none⟩ ∧ g < w.heap.size ∧ w.cell? ⟨g, off + j, none⟩ = some (.bool (bs.getD j false))
def joinedL (cuts : List Int) (bs : List Bool) : Nat → List (Int × Int)
  | 0 => []
  | k + 1 => if bs.getD k false = true then addedL (joinedL cuts bs k) (cuts.getD k 0) (cuts.getD (k + 1) 0) else joinedL cuts bs k
theorem joinedL_length (cuts : List Int) (bs : List Bool) (k : Nat) : (joinedL cuts bs k).length ≤ k := by
  induction k with
  | zero => simp [joinedL]
  | succ k ih =>
    rw [joinedL]
    split
    · have := addedL_length (joinedL cuts bs k) (cuts.getD k 0) (cuts.getD (k + 1) 0); omega
    · omega
theorem joinedL_last {cuts : List Int} (hs : Asc cuts) (bs : List Bool) (k : Nat) (hk : k < cuts.length) (r : Int × Int) (h : (joinedL cuts bs k).getLast? = some r) : r.2 ≤ cuts.getD k 0 := by
  induction k generalizing r with
  | zero => simp [joinedL] at h
  | succ k ih =>
    have hle : cuts.getD k 0 ≤ cuts.getD (k + 1) 0 := asc_get hs (by omega) hk
    rw [joinedL] at h
    generalize cuts.getD (k + 1) 0 = y at *
    generalize cuts.getD k 0 = x at *
    split at h
    · unfold addedL at h
      split at h
      · have := ih (by omega) r h; omega
      · split at h
        · simp at h; subst h; exact Int.le_refl _
        · rename_i r0 h0
          have := ih (by omega) r0 h0
          split at h
          · simp at h; subst h; simp only; omega
          · simp at h; subst h; exact Int.le_refl _
    · have := ih (by omega) r h; omega
theorem step_append_e2 {P : Program} {ops : Array Oper} {o : Oper} {a : Act} {w : World} {K : Act → World → Prop} {Q : Exit → Act → World → Prop} {E : Prop} {R : Value → World → Prop} (hgd : o.guard = none) (s x : Operand) (t : TypeId)
    (ho : o.op = .call { callee := .builtin .append, args := #[s, x], argTypes := #[t, t] }) (v u : Value) (hs : a.eval s = v) (hx : a.eval x = u)
    (hex : ∃ v' w', (Builtin.append_ #[t, t] o.type #[v, u]).run P w = .ok v' w' ∧ R v' w') (h : ∀ v' w', R v' w' → K (a.put o.dst v') w') :
    if Region.wanted o (yielded ops a.tmps) = true then Oper.wp P o a w K Q else E := by
  obtain ⟨v', w', hr, hR⟩ := hex
  have hw : Region.wanted o (yielded ops a.tmps) = true := by simp [Region.wanted, hgd]
  rw [if_pos hw]
  unfold Oper.wp execOp
  simp only [ho, resolve, invoke, builtin, Sem.run_bind, Sem.run_pure, Result.andThen_ok, List.map_toArray, List.map_cons, List.map_nil, hs, hx, hr]
  exact h v' w' hR
set_option maxHeartbeats 2000000 in
theorem joined_any {w : World} {a : Option Addr} {n cap : Nat} {cuts : List Int} (h : RngI w a n cap cuts) (hs : Asc cuts) {b : Option Addr} {capb : Nat} {bs : List Bool} (hk : RngB w b n capb bs) (hn : n ≤ 1048576) :
    Calls Tryz.prog 102 #[.slice a n cap, .slice b n capb] w fun e w' => ∃ o no co, e = .returned (.slice o no co) ∧ Own w' w.heap.size (.slice o no co) (joinedL cuts bs (n - 1)) ∧ Below w.heap.size w w' := by
  have hln := h.len
  have hlb := hk.len
  go_enter Tryz.func102, Tryz.ntmps102
  go_wp2_with fail
  go_loopw [5, 6] (fun vo vi w' => ∃ (j : Nat) (o : Option Addr) (no co : Nat), (j = 0 ∨ j + 1 ≤ n) ∧ no ≤ j ∧ vi = .int .i64 j ∧ vo = .slice o no co ∧ Own w' w.heap.size (.slice o no co) (joinedL cuts bs j) ∧ Below w.heap.size w w') (fun _ i _ => n - (RowKit.intOf i).toNat)
  case atStart => exact ⟨0, none, 0, 0, .inl rfl, Nat.le_refl _, rfl, rfl, own_nil _ _, Below.refl _ _⟩
  case round =>
    obtain ⟨j, o, no, co, hj0, hno, rfl, rfl, ho, hb⟩ := hrel
    have hsz := hb.size
    by_cases hj : j + 1 < n
    · obtain ⟨g, off, rfl, hg, hc⟩ := h.cells j (by omega)
      obtain ⟨g', off', e', _, hd⟩ := h.cells (j + 1) (by omega)
      cases e'
      obtain ⟨g2, off2, rfl, hg2, hc2⟩ := hk.cells j (by omega)
      have c0 := (hb.cell (p := ⟨g, off + j, none⟩) hg).trans hc
      have c1 := (hb.cell (p := ⟨g, off + (j + 1), none⟩) hg).trans hd
      have c2 := (hb.cell (p := ⟨g2, off2 + j, none⟩) hg2).trans hc2
      have hle : cuts.getD j 0 ≤ cuts.getD (j + 1) 0 := asc_get hs (by omega) (by omega)
      have hlast := joinedL_last hs bs j (by omega)
      have hJ : Hid (joinedL cuts bs (j + 1) = if bs.getD j false = true then addedL (joinedL cuts bs j) (cuts.getD j 0) (cuts.getD (j + 1) 0) else joinedL cuts bs j) := rfl
      generalize joinedL cuts bs j = L at *
      generalize cuts.getD (j + 1) 0 = y at *
      generalize cuts.getD j 0 = x at *
      generalize bs.getD j false = t at *
      have hlen := ho.rng.len
      have HC : Hid (w.cell? ⟨g, off + j, none⟩ = some (.int .i64 x) ∧ w.cell? ⟨g, off + (j + 1), none⟩ = some (.int .i64 y)) := ⟨hc, hd⟩
      clear hc hd hc2 hk h hs
      cases t with
      | false =>
        have HJ : Hid (joinedL cuts bs (j + 1) = L) := hJ.out.trans (if_neg (by decide))
        clear hJ hlast
        go_wp2_with fail
        go_quiet (fail)
        go_wp2_with fail
        go_roundw
        case rel => exact ⟨j + 1, o, no, co, .inr (by omega), by omega, by go_num, rfl, HJ.out ▸ ho.below (below_drewN (Below.refl _ _) _), below_drewN hb _⟩
        case measure => simp [RowKit.intOf]; omega
      | true =>
        have HJ : Hid (joinedL cuts bs (j + 1) = addedL L x y) := hJ.out.trans (if_pos rfl)
        clear hJ
        by_cases hxy : x = y
        · subst hxy
          have HJ2 : Hid (joinedL cuts bs (j + 1) = L) := HJ.out.trans (by unfold addedL; rw [if_pos (Int.le_refl _)])
          clear HJ hlast
          go_wp2_with fail
          go_quiet (fail)
          go_wp2_with fail
          go_roundw
          case rel => exact ⟨j + 1, o, no, co, .inr (by omega), by omega, by go_num, rfl, HJ2.out ▸ ho.below (below_drewN (Below.refl _ _) _), below_drewN hb _⟩
          case measure => simp [RowKit.intOf]; omega
        · have h1 : ¬ y ≤ x := by omega
          have dxy : (x == y) = false := by simp [hxy]
          have HAP : ∀ W, Below wr.heap.size wr W → ∃ v' w', (Builtin.append_ #[32, 32] 32 #[.slice o no co, .slice (some ⟨W.heap.size, 0, none⟩) 1 1]).run Tryz.prog (W.alloc (.cells #[.int .i64 x, .int .i64 y] 91)) = .ok v' w' ∧ (∃ a'' co'', v' = .slice a'' (no + 1) co'' ∧ Own w' w.heap.size (.slice a'' (no + 1) co'') (L ++ [(x, y)]) ∧ Below w.heap.size w w') := fun W hW => by
            have hB := hb.trans (hW.mono hsz)
            obtain ⟨a'', co'', w', hr, ho', hb', _, _⟩ := append_one (w := W) (B := w.heap.size) (ho.below hW) hB.size x y (by omega) 32
            exact ⟨_, w', hr, a'', co'', rfl, ho', hB.trans hb'⟩
          rcases List.eq_nil_or_concat L with rfl | ⟨l0, ⟨p, q⟩, hl⟩
          · have HJ2 : Hid (joinedL cuts bs (j + 1) = [] ++ [(x, y)]) := HJ.out.trans (by unfold addedL; rw [if_neg h1]; rfl)
            simp only [List.length_nil] at hlen
            subst hlen
            clear HJ hlast h1 hxy
            have HAP2 : Hid _ := HAP
            clear HAP
            go_wp2_with fail
            go_quiet (fail)
            go_wp2_with fail
            go_quiet (fail)
            go_wp2_with fail
            rename_i nq0
            generalize hW0 : (wr.drewN nq0).drewN nq = W0
            have B0 : Below wr.heap.size wr W0 := by rw [← hW0]; exact below_drewN (below_drewN (Below.refl _ _) _) _
            have hgr : g < wr.heap.size := by omega
            have d0 := (B0.cell (p := ⟨g, off + j, none⟩) hgr).trans c0
            have d1 := (B0.cell (p := ⟨g, off + (j + 1), none⟩) hgr).trans c1
            have HG : Hid (∀ W, Below w.heap.size w W → W.cell? ⟨g, off + j, none⟩ = some (.int .i64 x) ∧ W.cell? ⟨g, off + (j + 1), none⟩ = some (.int .i64 y)) := fun W hW => ⟨(hW.cell (p := ⟨g, off + j, none⟩) hg).trans HC.out.1, (hW.cell (p := ⟨g, off + (j + 1), none⟩) hg).trans HC.out.2⟩
            have i0 : (0 : Int) ≤ (j : Int) := by omega
            have i1 : (j : Int) < (n : Int) := by omega
            have i2 : j < n := by omega
            have i3 : (0 : Int) ≤ (j : Int) + 1 := by omega
            have i4 : IntKind.i64.wrap ((j : Int) + 1) = (j : Int) + 1 := IntWalk.i64_in _ (by omega)
            clear c0 c1 c2 hW0 HC
            go_region_held3 (fun W => W.cell? ⟨g, off + j, none⟩ = some (.int .i64 x) ∧ W.cell? ⟨g, off + (j + 1), none⟩ = some (.int .i64 y)) (first | exact ⟨d0, d1⟩ | exact hkk | go_keep)
              ((refine step_append_e2 (by rfl) _ _ 32 (by rfl) (.slice o 0 co) (.slice (some ⟨W0.heap.size, 0, none⟩) 1 1) (by rfl) (by rfl) (HAP2.out W0.drew ⟨B0.os, B0.tape, B0.output, B0.size, B0.block⟩) ?_; rintro v' w' ⟨a'', co'', rfl, ho'', hb''⟩; have hkk := HG.out _ hb''))
            go_wp2_with fail
            go_roundw
            case rel => exact ⟨j + 1, a'', _, co'', .inr (by omega), by omega, by go_num, rfl, HJ2.out ▸ ho'', hb''⟩
            case measure => simp [RowKit.intOf]; omega
          · rw [List.concat_eq_append] at hl
            subst hl
            simp only [List.length_append, List.length_cons, List.length_nil] at hlen
            obtain ⟨g3, rfl, hBg, hg3, hfz⟩ := own_ptr ho (by omega)
            have hf1 := hfz (l0.length * 2 + 1)
            obtain ⟨g', off', hga, _, hc0, hc1⟩ := ho.rng.cells l0.length (by omega)
            cases hga
            rw [getD_snoc, Nat.zero_add] at hc0 hc1
            simp only at hc0 hc1
            subst hlen
            have hqx : q ≤ x := hlast (p, q) (by simp)
            by_cases h2 : q = x
            · subst h2
              have HJ2 : Hid (joinedL cuts bs (j + 1) = l0 ++ [(p, y)]) := HJ.out.trans (by
                unfold addedL; rw [if_neg h1]; simp; omega)
              have HO2 : Hid (∀ m, Own ((wr.drewN m).setCell ⟨g3, l0.length * 2 + 1, none⟩ (.int .i64 y)) w.heap.size (.slice (some ⟨g3, 0, none⟩) (l0.length + 1) co) (l0 ++ [(p, y)])) := fun m => own_set2 (ho.below (below_drewN (Below.refl _ _) m)) y
              clear HJ hlast h1 hxy HAP hfz
              go_wp2_with fail
              go_quiet (fail)
              go_wp2_with fail
              go_quiet (fail)
              go_wp2_with fail
              go_roundw
              case rel => exact ⟨j + 1, _, _, _, .inr (by omega), by omega, by go_num, rfl, HJ2.out ▸ HO2.out _, (below_drewN hb _).setCell (p := ⟨g3, l0.length * 2 + 1, none⟩) hBg _⟩
              case measure => simp [RowKit.intOf]; omega
            · have dqx : (q == x) = false := by simp [h2]
              have HJ2 : Hid (joinedL cuts bs (j + 1) = l0 ++ [(p, q)] ++ [(x, y)]) := HJ.out.trans (by
                unfold addedL; rw [if_neg h1]; simp; omega)
              clear HJ hlast h1 hxy h2 hfz
              have HAP2 : Hid _ := HAP
              clear HAP
              go_wp2_with fail
              go_quiet (fail)
              go_wp2_with fail
              go_quiet (fail)
              go_wp2_with fail
              rename_i nq0
              generalize hW0 : (wr.drewN nq0).drewN nq = W0
              have B0 : Below wr.heap.size wr W0 := by rw [← hW0]; exact below_drewN (below_drewN (Below.refl _ _) _) _
              have hgr : g < wr.heap.size := by omega
              have d0 := (B0.cell (p := ⟨g, off + j, none⟩) hgr).trans c0
              have d1 := (B0.cell (p := ⟨g, off + (j + 1), none⟩) hgr).trans c1
              have HG : Hid (∀ W, Below w.heap.size w W → W.cell? ⟨g, off + j, none⟩ = some (.int .i64 x) ∧ W.cell? ⟨g, off + (j + 1), none⟩ = some (.int .i64 y)) := fun W hW => ⟨(hW.cell (p := ⟨g, off + j, none⟩) hg).trans HC.out.1, (hW.cell (p := ⟨g, off + (j + 1), none⟩) hg).trans HC.out.2⟩
              have i0 : (0 : Int) ≤ (j : Int) := by omega
              have i1 : (j : Int) < (n : Int) := by omega
              have i2 : j < n := by omega
              have i3 : (0 : Int) ≤ (j : Int) + 1 := by omega
              have i4 : IntKind.i64.wrap ((j : Int) + 1) = (j : Int) + 1 := IntWalk.i64_in _ (by omega)
              clear c0 c1 c2 hW0 HC
              go_region_held3 (fun W => W.cell? ⟨g, off + j, none⟩ = some (.int .i64 x) ∧ W.cell? ⟨g, off + (j + 1), none⟩ = some (.int .i64 y)) (first | exact ⟨d0, d1⟩ | exact hkk | go_keep)
                ((refine step_append_e2 (by rfl) _ _ 32 (by rfl) (.slice (some ⟨g3, 0, none⟩) (l0.length + 1) co) (.slice (some ⟨W0.heap.size, 0, none⟩) 1 1) (by rfl) (by rfl) (HAP2.out W0.drew ⟨B0.os, B0.tape, B0.output, B0.size, B0.block⟩) ?_; rintro v' w' ⟨a'', co'', rfl, ho'', hb''⟩; have hkk := HG.out _ hb''))
              go_wp2_with fail
              go_roundw
              case rel => exact ⟨j + 1, a'', _, co'', .inr (by omega), by omega, by go_num, rfl, HJ2.out ▸ ho'', hb''⟩
              case measure => simp [RowKit.intOf]; omega
    · have e : n - 1 = j := by omega
      go_wp2_with fail
      go_ret
      exact ⟨_, _, _, rfl, by rw [e]; exact ho, hb⟩
end Go.Proofs.YtmdnmhdimfglaaaGreatDoor.Sp

namespace Go.Proofs.YtmdnmhdimfglaaaGreatDoor.Sp
open Go.RowKit Go.Lib
set_option maxRecDepth 100000
theorem joinedL_good {cuts : List Int} (hs : Asc cuts) (bs : List Bool) {b T : Int} (hb : ∀ x ∈ cuts, b < x) (hT : ∀ x ∈ cuts, x ≤ T) (k : Nat) (hk : k = 0 ∨ k < cuts.length) :
    Norm b (joinedL cuts bs k) ∧ (∀ r ∈ joinedL cuts bs k, r.1 ≤ cuts.getD k 0) ∧ (∀ r ∈ joinedL cuts bs k, r.2 ≤ T) ∧
      ∀ q, Lies (joinedL cuts bs k) q ↔ ∃ i, i < k ∧ bs.getD i false = true ∧ cuts.getD i 0 ≤ q ∧ q < cuts.getD (i + 1) 0 := by
  induction k with
  | zero =>
    refine ⟨trivial, (fun r hr => by cases hr), (fun r hr => by cases hr), fun q => ⟨fun h => absurd h (lies_nil q), ?_⟩⟩
    rintro ⟨i, hi, _⟩
    omega
  | succ k ih =>
    have hk' : k + 1 < cuts.length := by omega
    obtain ⟨h1, h2, h3, h4⟩ := ih (.inr (by omega))
    have hle : cuts.getD k 0 ≤ cuts.getD (k + 1) 0 := asc_get hs (by omega) hk'
    have hbk : b < cuts.getD k 0 := hb _ (get_mem (by omega))
    have hTk : cuts.getD (k + 1) 0 ≤ T := hT _ (get_mem hk')
    have hlt : ∀ r ∈ joinedL cuts bs k, r.1 < r.2 := fun r hr => (norm_lt h1 r hr).2
    rw [joinedL]
    by_cases ht : bs.getD k false = true
    · rw [if_pos ht]
      refine ⟨addedL_norm h1 h2 hbk, fun r hr => Int.le_trans (addedL_los h2 r hr) hle, addedL_top h3 (fun _ => hTk), fun q => ?_⟩
      rw [addedL_lies h2 hlt, h4]
      constructor
      · rintro (⟨i, hi, e⟩ | e)
        · exact ⟨i, by omega, e⟩
        · exact ⟨k, by omega, ht, e⟩
      · rintro ⟨i, hi, e1, e2⟩
        by_cases c : i = k
        · subst c; exact .inr e2
        · exact .inl ⟨i, by omega, e1, e2⟩
    · rw [if_neg ht]
      refine ⟨h1, fun r hr => Int.le_trans (h2 r hr) hle, h3, fun q => ?_⟩
      rw [h4]
      constructor
      · rintro ⟨i, hi, e⟩
        exact ⟨i, by omega, e⟩
      · rintro ⟨i, hi, e1, e2⟩
        by_cases c : i = k
        · subst c; exact absurd e1 ht
        · exact ⟨i, by omega, e1, e2⟩
theorem joinedL_is {cuts : List Int} (hs : Asc cuts) {bs : List Bool} {S : Int → Prop} {b T : Int} (hb : ∀ x ∈ cuts, b < x) (hT : ∀ x ∈ cuts, x ≤ T)
    (hI : ∀ k, k + 1 < cuts.length → (bs.getD k false = true ↔ S (cuts.getD k 0)))
    (H1 : ∀ c q, c ≤ q → (∀ x ∈ cuts, ¬ (c < x ∧ x ≤ q)) → (S c ↔ S q)) (H2 : ∀ q, S q → (∃ x ∈ cuts, x ≤ q) ∧ ∃ x ∈ cuts, q < x) :
    Norm b (joinedL cuts bs (cuts.length - 1)) ∧ (∀ r ∈ joinedL cuts bs (cuts.length - 1), r.2 ≤ T) ∧ ∀ q, Lies (joinedL cuts bs (cuts.length - 1)) q ↔ S q := by
  obtain ⟨h1, _, h3, h4⟩ := joinedL_good hs bs hb hT (cuts.length - 1) (by omega)
  refine ⟨h1, h3, fun q => (h4 q).trans (Iff.trans ?_ (pieces_all (S := S) (I := fun k => bs.getD k false = true) hs hI H1 H2 q))⟩
  constructor
  · rintro ⟨i, hi, e1, e2, e3⟩
    exact ⟨i, e1, by omega, e2, e3⟩
  · rintro ⟨i, e1, e2, e3, e4⟩
    exact ⟨i, by omega, e1, e3, e4⟩
theorem lies_cuts {l : List (Int × Int)} {cuts : List Int} (hc : ∀ r ∈ l, r.1 ∈ cuts ∧ r.2 ∈ cuts) {q : Int} (h : Lies l q) : (∃ x ∈ cuts, x ≤ q) ∧ ∃ x ∈ cuts, q < x := by
  obtain ⟨r, hr, h1, h2⟩ := h
  exact ⟨⟨_, (hc r hr).1, h1⟩, ⟨_, (hc r hr).2, h2⟩⟩
end Go.Proofs.YtmdnmhdimfglaaaGreatDoor.Sp
