import Derived.Test.YtokclnjaglklhaaDoorRvAJ
/-! One act of the statement. -/
namespace Go.Proofs.YtokclnjaglklhaaDoor
open Go.RowKit Go.Lib
set_option maxRecDepth 100000

theorem Upd.cell {q : Nat} {w w' : World} (hu : Upd q w w') {p : Addr} (h1 : p.block < w.heap.size) (h2 : p.block ≠ q) : w'.cell? p = w.cell? p := by
  unfold World.cell?
  rw [hu.block p.block h1 h2]
/-- A row of numbers isn't a rope's box. -/
theorem Rw.upd {α : Type} {f : α → List Value} {k : Nat} (hv : ∀ x : α, ∃ kd i, (f x)[0]? = some (.int kd i)) {w w' : World} {a : Option Addr} {n cap : Nat} {l : List α} (h : Rw f k w a n cap l) {q : Nat} {t : Tr} (hq : RopeAt w q t) (hu : Upd q w w') : Rw f k w' a n cap l :=
  ⟨h.len, h.room, fun hn => by
    obtain ⟨g, off, ha, hg, hc⟩ := h.cells hn
    have hl0 : 0 < l.length := by have := h.len; omega
    have hx : l[0]? = some l[0] := List.getElem?_eq_getElem hl0
    obtain ⟨kd, i, hvi⟩ := hv l[0]
    have h0 := hc 0 _ hx 0 _ hvi
    obtain ⟨gr, hb, _⟩ := hq
    have hne : g ≠ q := by
      rintro rfl
      simp only [World.cell?, hb] at h0
      match off, h0 with
      | 0, h0 => simp at h0
      | j + 1, h0 => simp at h0
    exact ⟨g, off, ha, by have := hu.size; omega, fun j x hj i v hv => (hu.cell (p := ⟨g, off + j * k + i, none⟩) hg hne).trans (hc j x hj i v hv)⟩⟩
theorem num_cell (x : Int × Int) : ∃ kd i, (cellV x)[0]? = some (.int kd i) := ⟨_, _, rfl⟩
theorem num_piece (x : Int × Int) : ∃ kd i, (pieceV x)[0]? = some (.int kd i) := ⟨_, _, rfl⟩
theorem Holds.insertU {w2 : World} {q : Nat} {R : List (Int × Int)} {W : World} (h : Holds w2 q R W) (hq : w2.heap.size ≤ q) (m : Nat) (hm : m ≤ R.length) {s : ByteArray} {rs : List Int} (ht : IsText s rs) (hne : rs ≠ []) (hid : Int) (h0 : 0 ≤ hid) (h1 : hid ≤ 1048576) (hn : R.length + rs.length ≤ 1048576) (hBar : Bar w2) :
    Calls Tryd.prog 19 #[.pointer (some ⟨q, 0, none⟩), .int .i64 (m : Int), .string s, .int .i64 hid] W fun e W' => e = .returned (.int .i64 0) ∧ Holds w2 q (putL R m rs hid) W' ∧ Upd q W W' := by
  obtain ⟨t, k1, k2, rfl, k3⟩ := h
  exact (insert_any k1 k2 m hm ht hne hid h0 h1 hn (hBar.below k3)).mono fun e W' ⟨he, ⟨t', g1, g2, g3⟩, hu⟩ => ⟨he, ⟨t', g1, g2, g3, Upd.below k3 hu hq k3.size⟩, hu⟩
theorem Holds.bumpU {w2 : World} {q : Nat} {R : List (Int × Int)} {W : World} (h : Holds w2 q R W) (hq : w2.heap.size ≤ q) {a : Option Addr} {m cap : Nat} {l : List (Int × Int)} (hl : Rw pieceV 2 W a m cap l) (hm : m ≤ 32768) (hs : Srt l) (hb : ∀ x ∈ l, 0 ≤ x.1 ∧ x.2 ≤ (R.length : Int)) (d : Int) (hd : d = 1 ∨ d = -1) (hok : ∀ c ∈ bmp l d 0 R, 0 ≤ c.2 ∧ c.2 ≤ 1048576) :
    Calls Tryd.prog 22 #[.pointer (some ⟨q, 0, none⟩), .slice a m cap, .int .i64 d] W fun e W' => e = .returned (.int .i64 0) ∧ Holds w2 q (bmp l d 0 R) W' ∧ Upd q W W' := by
  obtain ⟨t, k1, k2, rfl, k3⟩ := h
  exact (bump_any k1 k2 hl hm hs hb d hd hok).mono fun e W' ⟨he, ⟨t', g1, g2, g3⟩, hu⟩ => ⟨he, ⟨t', g1, g2, g3, Upd.below k3 hu hq k3.size⟩, hu⟩
/-- The row, in the statement and in the rope. -/
structure Both (w2 : World) (q : Nat) (M : Int) (R : List (Int × Int)) (a : Option Addr) (cap : Nat) (W : World) : Prop where
  rope : Holds w2 q R W
  row : Rw cellV 2 W a R.length cap R
  ok : ∀ c ∈ R, okR c.1
  cnt : Cnt M R
theorem Cnt.put {M : Int} {R : List (Int × Int)} (h : Cnt M R) {m : Nat} {rs : List Int} {hid : Int} (h0 : 0 ≤ hid) (h1 : hid ≤ M + 1) : Cnt (M + 1) (putL R m rs hid) := fun c hc => by
  unfold putL at hc
  rcases List.mem_append.1 hc with hc | hc
  · rcases List.mem_append.1 hc with hc | hc
    · have := h c (List.mem_of_mem_take hc); omega
    · obtain ⟨x, _, rfl⟩ := List.mem_map.1 hc; exact ⟨h0, h1⟩
  · have := h c (List.mem_of_mem_drop hc); omega
/-- The row behind an act. -/
def actR (R : List (Int × Int)) (k A B N : Int) : List (Int × Int) := if k = 0 then putL R (A % ((R.length : Int) + 1)).toNat (wrds B (1 + N % 48).toNat) (B % 3) else bmp (chL R A B (decide (k ≠ 1)) R.length) (if k = 1 then 1 else -1) 0 R
set_option maxHeartbeats 8000000 in
theorem acts_put {w2 : World} {q : Nat} {M : Int} {R : List (Int × Int)} {a : Option Addr} {cap : Nat} {W : World} (h : Both w2 q M R a cap W) (hq : w2.heap.size ≤ q) (hBar : Bar w2) (hM : 1 ≤ M) (hlen : R.length ≤ 32768) (A B N : Int) :
    Calls Tryd.prog 9 #[.pointer (some ⟨q, 0, none⟩), .slice a R.length cap, .agg #[.int .i64 0, .int .i64 A, .int .i64 B, .int .i64 N]] W fun e W' => ∃ a' cap' R', e = .returned (.tuple #[.slice a' R'.length cap', .bool true]) ∧ Both w2 q (M + 1) R' a' cap' W' ∧ R'.length ≤ R.length + 48 ∧ Upd q W W' ∧ R' = actR R 0 A B N := by
  have hm0 := Int.emod_nonneg A (show ((R.length : Int) + 1) ≠ 0 by omega)
  have hm1 := Int.emod_lt_of_pos A (show (0 : Int) < (R.length : Int) + 1 by omega)
  obtain ⟨m, hm⟩ : ∃ m : Nat, A % ((R.length : Int) + 1) = (m : Int) := ⟨(A % ((R.length : Int) + 1)).toNat, by omega⟩
  have HDF : Hid (actR R 0 A B N = putL R m (wrds B (1 + N % 48).toNat) (B % 3)) := by show _ = _; unfold actR; rw [if_pos rfl, hm, Int.toNat_natCast]
  have HRA := rest_any A ((R.length : Int) + 1) (by omega) (by omega)
  rw [hm] at HRA hm1
  have hmR : m ≤ R.length := by omega
  have hk0 := Int.emod_nonneg N (show (48 : Int) ≠ 0 by decide)
  have hk1 := Int.emod_lt_of_pos N (show (0 : Int) < 48 by decide)
  have HRN := rest_any N 48 (by decide) (by decide)
  have hh0 := Int.emod_nonneg B (show (3 : Int) ≠ 0 by decide)
  have hh1 := Int.emod_lt_of_pos B (show (0 : Int) < 3 by decide)
  have HRB := rest_any B 3 (by decide) (by decide)
  generalize N % 48 = K at *
  generalize B % 3 = hid at *
  have HWD := words_is (1 + K).toNat B (by omega)
  rw [show (((1 + K).toNat : Nat) : Int) = 1 + K by omega] at HWD
  have hro := h.row.room
  clear hm0 hm1 hm
  have HRA' : Hid (∀ w : World, Calls Tryd.prog 6 #[.int .i64 A, .int .i64 ((R.length : Int) + 1)] w fun e w' => e = .returned (.int .i64 (m : Int)) ∧ w' = w) := HRA
  have HRN' : Hid (∀ w : World, Calls Tryd.prog 6 #[.int .i64 N, .int .i64 48] w fun e w' => e = .returned (.int .i64 K) ∧ w' = w) := HRN
  have HRB' : Hid (∀ w : World, Calls Tryd.prog 6 #[.int .i64 B, .int .i64 3] w fun e w' => e = .returned (.int .i64 hid) ∧ w' = w) := HRB
  have HWD' : Hid (∀ w : World, Calls Tryd.prog 11 #[.int .i64 (1 + K), .int .i64 B] w fun e w' => ∃ s, e = .returned (.string s) ∧ (∃ rs, IsText s rs ∧ ((rs.length : Int) = 1 + K ∧ rs = wrds B (1 + K).toNat)) ∧ w' = w) := fun w => (HWD w).mono fun e w' ⟨he, hw⟩ => ⟨_, he, ⟨_, wrds_text _ _, by rw [wrds_len]; omega, rfl⟩, hw⟩
  obtain ⟨wa, ewa⟩ : ∃ X, W.alloc (.cells #[.int .i64 0, .int .i64 A, .int .i64 B, .int .i64 N] 39) = X := ⟨_, rfl⟩
  have hba : Below W.heap.size W wa := ewa ▸ (Below.refl _ _).alloc (Nat.le_refl _) _
  have k0 : wa.cell? ⟨W.heap.size, 0, none⟩ = some (.int .i64 0) := ewa ▸ World.cell?_alloc_mark _ _ _ _ _
  have k1 : wa.cell? ⟨W.heap.size, 1, none⟩ = some (.int .i64 A) := ewa ▸ World.cell?_alloc_mark _ _ _ _ _
  have k2 : wa.cell? ⟨W.heap.size, 2, none⟩ = some (.int .i64 B) := ewa ▸ World.cell?_alloc_mark _ _ _ _ _
  have k3 : wa.cell? ⟨W.heap.size, 3, none⟩ = some (.int .i64 N) := ewa ▸ World.cell?_alloc_mark _ _ _ _ _
  have u0 : IntKind.i64.wrap ((R.length : Int) + 1) = (R.length : Int) + 1 := IntWalk.i64_in _ (by omega)
  have u1 : IntKind.i64.wrap (1 + K) = 1 + K := IntWalk.i64_in _ (by omega)
  have HH : Hid (Both w2 q M R a cap W) := h
  clear HRA HRN HRB HWD h
  go_enter Tryd.func9, Tryd.ntmps9
  go_wp2_with fail
  refine (HRA'.out _).mono ?_
  rintro e w1 ⟨rfl, hw1⟩
  subst hw1
  clear ewa
  go_wp2_with fail
  refine wp_region_held_drew (S := (fun X => X.cell? ⟨W.heap.size, 2, none⟩ = some (.int .i64 B) ∧ X.cell? ⟨W.heap.size, 3, none⟩ = some (.int .i64 N))) (by kernel_rfl) ?hS1 (fun hHeld => ?rest1)
  case hS1 => exact ⟨k2, k3⟩
  refine takeD (i := 0) (d := some 24) (v := ?vT2) rfl rfl (by kernel_rfl) (by kernel_rfl) (by kernel_rfl) (fun _ _ _ h => h) (Or.inl ⟨by rfl, ?hyT2⟩) (by assumption) ?rstT2
  case hyT2 => (intro w hSw; (try dsimp only at hSw); go_simp; (try with_reducible rfl))
  try simp only [Act.put, List.setIfInBounds_toArray, List.set_cons_zero, List.set_cons_succ]
  refine takeD (i := 1) (d := some 25) (v := ?vT3) rfl rfl (by kernel_rfl) (by kernel_rfl) (by kernel_rfl) (fun _ _ _ h => h) (Or.inl ⟨by rfl, ?hyT3⟩) (by assumption) ?rstT3
  case hyT3 => (intro w hSw; (try dsimp only at hSw); go_simp; (try with_reducible rfl))
  try simp only [Act.put, List.setIfInBounds_toArray, List.set_cons_zero, List.set_cons_succ]
  refine takeD (i := 4) (d := some 28) (v := ?vT4) rfl rfl (by kernel_rfl) (by kernel_rfl) (by kernel_rfl) (fun _ _ _ h => h) (Or.inl ⟨by rfl, ?hyT4⟩) (by assumption) ?rstT4
  case hyT4 => (intro w hSw; (try dsimp only at hSw); go_simp; (try with_reducible rfl))
  try simp only [Act.put, List.setIfInBounds_toArray, List.set_cons_zero, List.set_cons_succ]
  refine takeD (i := 5) (d := some 29) (v := ?vT5) rfl rfl (by kernel_rfl) (by kernel_rfl) (by kernel_rfl) (fun _ _ _ h => h) (Or.inl ⟨by rfl, ?hyT5⟩) (by assumption) ?rstT5
  case hyT5 => (intro w hSw; (try dsimp only at hSw); go_simp; (try with_reducible rfl))
  try simp only [Act.put, List.setIfInBounds_toArray, List.set_cons_zero, List.set_cons_succ]
  refine wpAnyH_ready (rs := [2]) (by kernel_rfl) (by simp) ?_
  refine AllReadyH.cons rfl (fun K hK => ?_) AllReadyH.nil
  go_simp
  refine (HRN'.out _).mono ?_
  rintro e3 w3 ⟨rfl, hw3⟩
  have hb3 : Below W.heap.size W w3 := by rw [hw3]; first | exact hba | exact hba.drew
  have g2 : w3.cell? ⟨W.heap.size, 2, none⟩ = some (.int .i64 B) := by rw [hw3]; exact k2
  have g3 : w3.cell? ⟨W.heap.size, 3, none⟩ = some (.int .i64 N) := by rw [hw3]; exact k3
  clear hw3
  clear hHeld
  refine hK.out _ _ ?hS6 (fun hHeld => ?rest6)
  case hS6 => exact ⟨g2, g3⟩
  clear hK K
  try simp only [Act.put, List.setIfInBounds_toArray, List.set_cons_zero, List.set_cons_succ]
  refine takeD (i := 3) (d := some 27) (v := ?vT7) rfl rfl (by kernel_rfl) (by kernel_rfl) (by kernel_rfl) (fun _ _ _ h => h) (Or.inl ⟨by rfl, ?hyT7⟩) (by assumption) ?rstT7
  case hyT7 => (intro w hSw; (try dsimp only at hSw); go_simp; (try with_reducible rfl))
  try simp only [Act.put, List.setIfInBounds_toArray, List.set_cons_zero, List.set_cons_succ]
  refine wpAnyH_ready (rs := [6]) (by kernel_rfl) (by simp) ?_
  refine AllReadyH.cons rfl (fun K hK => ?_) AllReadyH.nil
  go_simp
  refine (HWD'.out _).mono ?_
  rintro e4 w4 ⟨s, rfl, ⟨rs, ht, hrl⟩, hw4⟩
  have hb6 : Below W.heap.size W w4 := by rw [hw4]; first | exact hb3 | exact hb3.drew
  have j2 : w4.cell? ⟨W.heap.size, 2, none⟩ = some (.int .i64 B) := by rw [hw4]; exact g2
  have j3 : w4.cell? ⟨W.heap.size, 3, none⟩ = some (.int .i64 N) := by rw [hw4]; exact g3
  clear hw4
  clear hHeld
  refine hK.out _ _ ?hS8 (fun hHeld => ?rest8)
  case hS8 => exact ⟨j2, j3⟩
  clear hK K
  try simp only [Act.put, List.setIfInBounds_toArray, List.set_cons_zero, List.set_cons_succ]
  refine takeD (i := 7) (d := some 9) (v := ?vT9) rfl rfl (by kernel_rfl) (by kernel_rfl) (by kernel_rfl) (fun _ _ _ h => h) (Or.inl ⟨by rfl, ?hyT9⟩) (by assumption) ?rstT9
  case hyT9 => (intro w hSw; (try dsimp only at hSw); go_simp; (try with_reducible rfl))
  try simp only [Act.put, List.setIfInBounds_toArray, List.set_cons_zero, List.set_cons_succ]
  refine wpAnyH_done (by kernel_rfl) ?_ _
  obtain ⟨hrl, hrs⟩ := hrl
  have HRS : Hid (rs = wrds B (1 + K).toNat) := hrs
  clear hrs
  clear HRN' HWD'
  go_wp2_with fail
  refine (HRB'.out _).mono ?_
  rintro e w6 ⟨rfl, rfl⟩
  clear HRA' HRB'
  have hne : rs ≠ [] := by rintro rfl; simp at hrl; omega
  have hI := (HH.out.rope.still hb6).insertU hq m hmR ht hne hid hh0 (by omega) (by omega) hBar
  go_wp2_with fail
  refine hI.mono ?_
  rintro e w7 ⟨rfl, hH7, hu7⟩
  clear hI
  obtain ⟨t6, hr6, _⟩ := HH.out.rope.still hb6
  have hR7 : Rw cellV 2 w7 a R.length cap R := Rw.upd num_cell (HH.out.row.below hb6) hr6 hu7
  go_wp2_with fail
  refine (put_any hR7 m hmR (by omega) ht (by omega) hid).mono ?_
  rintro e w8 ⟨v8, rfl, ho8, hb8⟩
  obtain ⟨a8, c8, rfl⟩ := ho8.shape
  go_wp2_with fail
  go_ret2
  exact ⟨a8, c8, putL R m rs hid, rfl, ⟨hH7.still hb8, ho8.rw_ layC, putL_ok HH.out.ok ht.ok, HH.out.cnt.put hh0 (by omega)⟩, by rw [putL_len]; omega, ((Upd.ofBelow hb6).trans hu7).trans (Upd.ofBelow hb8), by rw [HDF.out, HRS.out]⟩
set_option maxHeartbeats 8000000 in
theorem acts_up {w2 : World} {q : Nat} {M : Int} {R : List (Int × Int)} {a : Option Addr} {cap : Nat} {W : World} (h : Both w2 q M R a cap W) (hq : w2.heap.size ≤ q) (hM : M ≤ 1000000) (hlen : R.length ≤ 32768) (A B N : Int) :
    Calls Tryd.prog 9 #[.pointer (some ⟨q, 0, none⟩), .slice a R.length cap, .agg #[.int .i64 1, .int .i64 A, .int .i64 B, .int .i64 N]] W fun e W' => ∃ a' cap' R', e = .returned (.tuple #[.slice a' R'.length cap', .bool true]) ∧ Both w2 q (M + 1) R' a' cap' W' ∧ R'.length ≤ R.length + 48 ∧ Upd q W W' ∧ R' = actR R 1 A B N := by
  have hro := h.row.room
  obtain ⟨wa, ewa⟩ : ∃ X, W.alloc (.cells #[.int .i64 1, .int .i64 A, .int .i64 B, .int .i64 N] 39) = X := ⟨_, rfl⟩
  have hba : Below W.heap.size W wa := ewa ▸ (Below.refl _ _).alloc (Nat.le_refl _) _
  have k0 : wa.cell? ⟨W.heap.size, 0, none⟩ = some (.int .i64 1) := ewa ▸ World.cell?_alloc_mark _ _ _ _ _
  have k1 : wa.cell? ⟨W.heap.size, 1, none⟩ = some (.int .i64 A) := ewa ▸ World.cell?_alloc_mark _ _ _ _ _
  have k2 : wa.cell? ⟨W.heap.size, 2, none⟩ = some (.int .i64 B) := ewa ▸ World.cell?_alloc_mark _ _ _ _ _
  have HCH := chosen_any (h.row.below hba) (by omega) A B false
  have HH : Hid (Both w2 q M R a cap W) := h
  clear h
  go_enter Tryd.func9, Tryd.ntmps9
  go_wp2_with fail
  refine HCH.mono ?_
  rintro e w3 ⟨v, l, rfl, ho, hC, hb3, hcl⟩
  clear HCH k0 k1 k2 ewa
  obtain ⟨al, cl, rfl⟩ := ho.shape
  have hll : l.length ≤ R.length := hC.few
  have hB3 : Below W.heap.size W w3 := hba.trans (hb3.mono hba.size)
  obtain ⟨g4, c4, w4, hr4, ho4, hb4, _⟩ := appendF_all kindRg layP (ownF_nil w3 w3.heap.size) (Nat.le_refl _) (ho.rw_ layP) (by simp; omega) (by simp; omega) 71
  simp only [List.length_nil, Nat.zero_add, List.nil_append] at hr4 ho4
  have hB4 : Below W.heap.size W w4 := hB3.trans (hb4.mono hB3.size)
  have hH4 := HH.out.rope.still hB4
  have hcn : Cnt (M + 1) (bmp l 1 0 R) := HH.out.cnt.bump hC (.inl rfl)
  have hbd : ∀ x ∈ l, 0 ≤ x.1 ∧ x.2 ≤ (R.length : Int) := fun x hx => ⟨(hC.each x hx).1, (hC.each x hx).2.2⟩
  have hI := hH4.bumpU hq (ho4.rw_ layP) (by omega) hC.srt hbd 1 (by simp) (fun c hc => by have := hcn c hc; omega)
  obtain ⟨t4, hr4', _⟩ := hH4
  have HRW : Hid (∀ X, Upd q w4 X → Rw cellV 2 X a R.length cap R ∧ Rw pieceV 2 X al l.length cl l) := fun X hX => ⟨Rw.upd num_cell (HH.out.row.below hB4) hr4' hX, Rw.upd num_piece ((ho.rw_ layP).below hb4) hr4' hX⟩
  have HL : Hid (∀ X, Upd q w4 X → Calls Tryd.prog 23 #[.slice a R.length cap, .slice al l.length cl, .int .i64 1] X fun e w' => ∃ v, e = .returned v ∧ OwnF cellV 2 41 w' X.heap.size v (bmp l 1 0 R) ∧ Below X.heap.size X w') := fun X hX => by
    have := lawBumped_any (HRW.out X hX).1 (by omega) (HRW.out X hX).2 (by omega) (fun r hr => ⟨(hC.each r hr).1, by have := (hC.each r hr).2.1; omega, (hC.each r hr).2.2⟩) 1 (by omega) (by omega) (fun c hc => by have := HH.out.cnt c hc; omega)
    rw [upAll_bmp l 1 R hC.srt fun x hx => (hC.each x hx).1] at this
    exact this
  have HOK : Hid (∀ c ∈ bmp l 1 0 R, okR c.1) := fun c hc => by
    obtain ⟨x, hx, e⟩ := bmp_mem hc
    rcases e with rfl | rfl
    · exact HH.out.ok _ hx
    · exact HH.out.ok x hx
  have HCN : Hid (Cnt (M + 1) (bmp l 1 0 R)) := hcn
  have HML : Hid ((bmp l 1 0 R).length = R.length) := bmp_len R 0
  have HDF : Hid (bmp l 1 0 R = actR R 1 A B N) := by show _ = _; unfold actR; rw [if_neg (by decide), hcl]; rfl
  clear hcl
  clear hcn hbd ho hC ho4 hr4' HRW
  generalize bmp l 1 0 R = R' at *
  go_wp2_with (at_builtin; refine wpList_append_hr rfl _ _ 71 rfl _ _ rfl rfl hr4 ?_)
  refine hI.mono ?_
  rintro e w5 ⟨rfl, hH5, hu5⟩
  clear hI hr4
  go_wp2_with fail
  refine (HL.out _ hu5).mono ?_
  rintro e w6 ⟨v6, rfl, ho6, hb6⟩
  obtain ⟨a6, c6, rfl⟩ := ho6.shape
  go_wp2_with fail
  go_ret2
  exact ⟨a6, c6, R', rfl, ⟨hH5.still hb6, ho6.rw_ layC, HOK.out, HCN.out⟩, by rw [HML.out]; omega, ((Upd.ofBelow hB4).trans hu5).trans (Upd.ofBelow hb6), HDF.out⟩
set_option maxHeartbeats 8000000 in
theorem acts_down {w2 : World} {q : Nat} {M : Int} {R : List (Int × Int)} {a : Option Addr} {cap : Nat} {W : World} (h : Both w2 q M R a cap W) (hq : w2.heap.size ≤ q) (hM : M ≤ 1000000) (hlen : R.length ≤ 32768) (kind A B N : Int) (hk0 : kind ≠ 0) (hk1 : kind ≠ 1) :
    Calls Tryd.prog 9 #[.pointer (some ⟨q, 0, none⟩), .slice a R.length cap, .agg #[.int .i64 kind, .int .i64 A, .int .i64 B, .int .i64 N]] W fun e W' => ∃ a' cap' R', e = .returned (.tuple #[.slice a' R'.length cap', .bool true]) ∧ Both w2 q (M + 1) R' a' cap' W' ∧ R'.length ≤ R.length + 48 ∧ Upd q W W' ∧ R' = actR R kind A B N := by
  have hro := h.row.room
  obtain ⟨wa, ewa⟩ : ∃ X, W.alloc (.cells #[.int .i64 kind, .int .i64 A, .int .i64 B, .int .i64 N] 39) = X := ⟨_, rfl⟩
  have hba : Below W.heap.size W wa := ewa ▸ (Below.refl _ _).alloc (Nat.le_refl _) _
  have k0 : wa.cell? ⟨W.heap.size, 0, none⟩ = some (.int .i64 kind) := ewa ▸ World.cell?_alloc_mark _ _ _ _ _
  have k1 : wa.cell? ⟨W.heap.size, 1, none⟩ = some (.int .i64 A) := ewa ▸ World.cell?_alloc_mark _ _ _ _ _
  have k2 : wa.cell? ⟨W.heap.size, 2, none⟩ = some (.int .i64 B) := ewa ▸ World.cell?_alloc_mark _ _ _ _ _
  have HCH := chosen_any (h.row.below hba) (by omega) A B true
  have HH : Hid (Both w2 q M R a cap W) := h
  have b0 : (kind == 0) = false := beq_eq_false_iff_ne.2 hk0
  have b1 : (kind == 1) = false := beq_eq_false_iff_ne.2 hk1
  have b2 : (kind != 1) = true := by simp [bne, b1]
  clear h
  go_enter Tryd.func9, Tryd.ntmps9
  go_wp2_with fail
  refine HCH.mono ?_
  rintro e w3 ⟨v, l, rfl, ho, hC, hb3, hcl⟩
  clear HCH k0 k1 k2 ewa
  obtain ⟨al, cl, rfl⟩ := ho.shape
  have hll : l.length ≤ R.length := hC.few
  have hB3 : Below W.heap.size W w3 := hba.trans (hb3.mono hba.size)
  obtain ⟨g4, c4, w4, hr4, ho4, hb4, _⟩ := appendF_all kindRg layP (ownF_nil w3 w3.heap.size) (Nat.le_refl _) (ho.rw_ layP) (by simp; omega) (by simp; omega) 71
  simp only [List.length_nil, Nat.zero_add, List.nil_append] at hr4 ho4
  have hB4 : Below W.heap.size W w4 := hB3.trans (hb4.mono hB3.size)
  have hH4 := HH.out.rope.still hB4
  have hcn : Cnt (M + 1) (bmp l (-1) 0 R) := HH.out.cnt.bump hC (.inr ⟨rfl, rfl⟩)
  have hbd : ∀ x ∈ l, 0 ≤ x.1 ∧ x.2 ≤ (R.length : Int) := fun x hx => ⟨(hC.each x hx).1, (hC.each x hx).2.2⟩
  have hI := hH4.bumpU hq (ho4.rw_ layP) (by omega) hC.srt hbd (-1) (by simp) (fun c hc => by have := hcn c hc; omega)
  obtain ⟨t4, hr4', _⟩ := hH4
  have HRW : Hid (∀ X, Upd q w4 X → Rw cellV 2 X a R.length cap R ∧ Rw pieceV 2 X al l.length cl l) := fun X hX => ⟨Rw.upd num_cell (HH.out.row.below hB4) hr4' hX, Rw.upd num_piece ((ho.rw_ layP).below hb4) hr4' hX⟩
  have HL : Hid (∀ X, Upd q w4 X → Calls Tryd.prog 23 #[.slice a R.length cap, .slice al l.length cl, .int .i64 (-1)] X fun e w' => ∃ v, e = .returned v ∧ OwnF cellV 2 41 w' X.heap.size v (bmp l (-1) 0 R) ∧ Below X.heap.size X w') := fun X hX => by
    have := lawBumped_any (HRW.out X hX).1 (by omega) (HRW.out X hX).2 (by omega) (fun r hr => ⟨(hC.each r hr).1, by have := (hC.each r hr).2.1; omega, (hC.each r hr).2.2⟩) (-1) (by omega) (by omega) (fun c hc => by have := HH.out.cnt c hc; omega)
    rw [upAll_bmp l (-1) R hC.srt fun x hx => (hC.each x hx).1] at this
    exact this
  have HOK : Hid (∀ c ∈ bmp l (-1) 0 R, okR c.1) := fun c hc => by
    obtain ⟨x, hx, e⟩ := bmp_mem hc
    rcases e with rfl | rfl
    · exact HH.out.ok _ hx
    · exact HH.out.ok x hx
  have HCN : Hid (Cnt (M + 1) (bmp l (-1) 0 R)) := hcn
  have HML : Hid ((bmp l (-1) 0 R).length = R.length) := bmp_len R 0
  have HDF : Hid (bmp l (-1) 0 R = actR R kind A B N) := by show _ = _; unfold actR; rw [if_neg hk0, if_neg hk1, hcl]; simp [hk1]
  clear hcl
  clear hcn hbd ho hC ho4 hr4' HRW
  generalize bmp l (-1) 0 R = R' at *
  go_wp2_with (at_builtin; refine wpList_append_hr rfl _ _ 71 rfl _ _ rfl rfl hr4 ?_)
  refine hI.mono ?_
  rintro e w5 ⟨rfl, hH5, hu5⟩
  clear hI hr4
  go_wp2_with fail
  refine (HL.out _ hu5).mono ?_
  rintro e w6 ⟨v6, rfl, ho6, hb6⟩
  obtain ⟨a6, c6, rfl⟩ := ho6.shape
  go_wp2_with fail
  go_ret2
  exact ⟨a6, c6, R', rfl, ⟨hH5.still hb6, ho6.rw_ layC, HOK.out, HCN.out⟩, by rw [HML.out]; omega, ((Upd.ofBelow hB4).trans hu5).trans (Upd.ofBelow hb6), HDF.out⟩
end Go.Proofs.YtokclnjaglklhaaDoor
