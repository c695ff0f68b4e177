import Derived.Test.YtjcfeaekhefpfaaDaI
import Derived.Test.YtjcfeaekhefpfaaClone
/-! giveUp, Crash, Sync, strings.Clone, fileOf. -/
namespace Go.Proofs.Ytjcfeaekhefpfaa
open Go.RowKit Go.Lib
set_option maxRecDepth 100000

/-- wpAnyH_take, the slot written out. -/
theorem takeD {P : Program} {md : Region.Mode} {ops : Array Oper} {Q : Exit → Act → World → Prop} {S : World → Prop} {i : Nat} {oi : Oper} {d : Option Nat} {v : Value} {fuel : Nat} {listed : Array Bool} {a : Act} {w : World} (hi : ops[i]? = some oi) (hd : oi.dst = d)
    (hs : Region.noSelect ops = true) (hf : Region.free md ops listed i = true) (hr : (Region.ready md ops listed).contains i = true)
    (hQ : ∀ c a w, Q (.panic c) (a.put oi.dst v) w → Q (.panic c) a w) (hy : YieldsIf P ops S oi v a) (hS : S w)
    (h : wpAnyH P md ops Q S fuel (listed.setIfInBounds i true) (a.put d v) w) : wpAnyH P md ops Q S (fuel + 1) listed a w := by
  subst hd
  exact wpAnyH_take hi hs hf hr hQ hy hS h

theorem crashP_steps (k s : Nat) (S : Dk) : crashP k { S with steps := s } = crashP k S := rfl
set_option maxHeartbeats 1000000 in
theorem giveUp_any {w : World} {p b ck : Nat} {S : Dk} {xs : List X} (h : DiskAt w p b S xs ck) (hu : lenX xs ≤ 1099511627776) (hk : S.keep ≤ 9223372036854775807) :
    Calls Try.prog 25 #[.pointer (some ⟨p, 0, none⟩)] w fun e w' => e = .returned (.int .i64 110) ∧ DiskAt w' p b (crashP S.keep S) (leftX S.keep xs) ck ∧ Chg (Blk p b xs) w w' := by
  obtain ⟨c0, c1, c2, c3, c4⟩ := box5 h.box
  have HC : Hid (Calls Try.prog 43 #[.pointer (some ⟨p, 0, none⟩), .int .i64 (S.keep : Int)] w fun e w' => e = .returned (.tuple #[]) ∧ DiskAt w' p b (crashP S.keep S) (leftX S.keep xs) ck ∧ Chg (Blk p b xs) w w') := crash_any h hu _ hk
  clear h hu hk c0 c1 c2 c3
  go_enter Try.func25, Try.ntmps25
  go_wp2_with fail
  refine HC.out.mono ?_
  rintro e w1 ⟨rfl, h1, h2⟩
  have HX : Hid (DiskAt w1 p b (crashP S.keep S) (leftX S.keep xs) ck ∧ Chg (Blk p b xs) w w1) := ⟨h1, h2⟩
  clear h1 h2
  go_wp2_with fail
  go_ret
  exact ⟨rfl, HX.out⟩
set_option maxHeartbeats 1000000 in
/-- Crash of a disk that runs. -/
theorem crashCall_any {w : World} {p b ck : Nat} {S : Dk} {xs : List X} (h : DiskAt w p b S xs ck) (hd : S.down = false) (hu : lenX xs ≤ 1099511627776) (k : Nat) (hk : k ≤ 9223372036854775807) :
    Calls Try.prog 33 #[.pointer (some ⟨p, 0, none⟩), .int .i64 (k : Int)] w fun e w' => e = .returned (.int .i64 0) ∧ DiskAt w' p b (crashP k S) (leftX k xs) ck ∧ Chg (Blk p b xs) w w' := by
  obtain ⟨c0, c1, c2, c3, c4⟩ := box5 h.box
  rw [hd] at c2
  have g3 : ¬ ((k : Int) < 0) := by omega
  have HC : Hid (Calls Try.prog 43 #[.pointer (some ⟨p, 0, none⟩), .int .i64 (k : Int)] w fun e w' => e = .returned (.tuple #[]) ∧ DiskAt w' p b (crashP k S) (leftX k xs) ck ∧ Chg (Blk p b xs) w w') := crash_any h hu _ hk
  clear h hu hk c0 c1 c3 c4 hd
  go_enter Try.func33, Try.ntmps33
  go_wp2_with fail
  refine HC.out.mono ?_
  rintro e w1 ⟨rfl, h1, h2⟩
  have HX : Hid (DiskAt w1 p b (crashP k S) (leftX k xs) ck ∧ Chg (Blk p b xs) w w1) := ⟨h1, h2⟩
  clear h1 h2
  go_wp2_with fail
  go_ret
  exact ⟨rfl, HX.out⟩
theorem X.sync_own (x : X) : x.sync.v.ownBlock = x.v.ownBlock := rfl
set_option maxHeartbeats 1000000 in
/-- Sync of a file that is there, on a disk that runs. -/
theorem syncCall_any {w : World} {p b ck : Nat} {S : Dk} {l r : List X} {x : X} (h : DiskAt w p b S (l ++ x :: r) ck) {nm : List UInt8} (hl : nm.length ≤ 9223372036854775807) (hr : readyP S nm = 0) (hx : x.nm = nm) (hn : ∀ y ∈ l, y.nm ≠ nm) (hs : S.steps = 0) :
    Calls Try.prog 32 #[.pointer (some ⟨p, 0, none⟩), .string ⟨nm.toArray⟩] w fun e w' => e = .returned (.int .i64 0) ∧ DiskAt w' p b { S with fs := l.map X.fl ++ x.sync.fl :: r.map X.fl } (l ++ x.sync :: r) ck ∧ Chg (Blk p b (l ++ x :: r)) w w' := by
  have HF : Hid (Calls Try.prog 26 #[.pointer (some ⟨p, 0, none⟩), .string ⟨nm.toArray⟩] w fun e w' => e = .returned (.tuple #[.pointer (some ⟨x.q, 0, none⟩), .int .i64 0]) ∧ w' = w) := find_hit h hl hr hx hn
  have HU : Hid (Calls Try.prog 24 #[.pointer (some ⟨p, 0, none⟩)] w fun e w' => e = .returned (.bool false) ∧ DiskAt w' p b S (l ++ x :: r) ck ∧ Chg (fun g => g = p) w w' ∧ w'.heap.size = w.heap.size) := by
    have := due_any h (by omega)
    have e1 : ({ S with steps := S.steps - 1 } : Dk) = S := by
      obtain ⟨a, b, c, d, e⟩ := S
      simp only at hs
      subst hs
      rfl
    rw [e1, hs] at this
    exact this
  have hxm : x ∈ l ++ x :: r := by simp
  clear h hl hr hx hn hs
  generalize (⟨nm.toArray⟩ : ByteArray) = s at *
  go_enter Try.func32, Try.ntmps32
  go_wp2_with fail
  refine HF.out.mono ?_
  rintro e w1 ⟨rfl, rfl⟩
  go_wp2_with fail
  refine HU.out.mono ?_
  rintro e w2 ⟨rfl, h2, hC2, hs2⟩
  have HX : Hid (DiskAt w2 p b S (l ++ x :: r) ck ∧ Chg (fun g => g = p) w1 w2) := ⟨h2, hC2⟩
  clear h2 hC2 hs2
  go_wp2_with fail
  refine (sync_any (HX.out.1.file x hxm)).mono ?_
  rintro e w3 ⟨rfl, h3, hC3, hs3⟩
  have HY : Hid (FileAt w3 x.sync ∧ Chg (fun g => g = x.q) w2 w3) := ⟨h3, hC3⟩
  clear h3 hC3 hs3
  go_wp2_with fail
  go_ret
  refine ⟨rfl, HX.out.1.upd (HY.out.2.mono (fun g _ e => .inl e)) HY.out.1 rfl rfl rfl (fun g hg => .inl hg), (HX.out.2.mono (fun g _ e => .inl e)).trans (HY.out.2.mono (fun g _ e => .inr (.inr ⟨x, hxm, .inl e⟩)))⟩
theorem clone_run (nm : List UInt8) (hl : nm.length ≤ 281474976710656) (w : World) : Calls Try.prog 28 #[.string ⟨nm.toArray⟩] w fun e w' => e = .returned (.string ⟨nm.toArray⟩) ∧ Below w.heap.size w w' := by
  have HC : Hid (Calls Try.prog 44 #[.string ⟨nm.toArray⟩] w fun e w' => e = .returned (.string ⟨nm.toArray⟩) ∧ Below w.heap.size w w') := Try.clone_any _ w (by simpa [ByteArray.size] using hl)
  clear hl
  generalize (⟨nm.toArray⟩ : ByteArray) = s at *
  go_enter Try.func28, Try.ntmps28
  go_wp2_with fail
  refine HC.out.mono ?_
  rintro e w1 ⟨rfl, hb⟩
  have HB : Hid (Below w.heap.size w w1) := hb
  clear hb
  go_wp2_with fail
  go_ret
  exact ⟨rfl, HB.out⟩
set_option maxHeartbeats 1000000 in
theorem fileOf_hit {w : World} {p b ck : Nat} {S : Dk} {l r : List X} {x : X} (h : DiskAt w p b S (l ++ x :: r) ck) {nm : List UInt8} (hx : x.nm = nm) (hn : ∀ y ∈ l, y.nm ≠ nm) :
    Calls Try.prog 23 #[.pointer (some ⟨p, 0, none⟩), .string ⟨nm.toArray⟩] w fun e w' => e = .returned (.pointer (some ⟨x.q, 0, none⟩)) ∧ w' = w := by
  obtain ⟨c0, c1, c2, c3, c4⟩ := box5 h.box
  have HL := look_hit h.map hx hn
  clear h hx hn
  generalize (⟨nm.toArray⟩ : ByteArray) = s at *
  go_enter Try.func23, Try.ntmps23
  go_wp2_with fail
  go_ret
  exact ⟨rfl, rfl⟩
/-- A new file. -/
theorem DiskAt.newFile {W W' : World} {p b ck q : Nat} {S : Dk} {xs : List X} {nm : List UInt8} (h : DiskAt W p b S xs ck) (hm : MapAt W' b (xs ++ [⟨nm, q, ck, .slice none 0 0, [], 0⟩]) (ck + 1)) (hC : Chg (fun g => g = b) W W') (hq : W.heap[q]? = some (.cells #[.slice none 0 0, .int .i64 0] 68)) (hqn : ∀ x ∈ xs, x.q ≠ q) :
    DiskAt W' p b { S with fs := S.fs ++ [⟨nm, [], 0⟩] } (xs ++ [⟨nm, q, ck, .slice none 0 0, [], 0⟩]) (ck + 1) := by
  refine ⟨hC.block h.box h.p_ne_b, hm, fun x hx => ?_, ?_, ?_, ?_⟩
  · rcases List.mem_append.1 hx with hx | hx
    · exact (h.file x hx).chg hC (fun e => h.b_ne_q hx e.symm) (fun g hg e => h.b_ne_g hx hg e.symm)
    · simp at hx
      subst hx
      exact ⟨hC.block hq (fun e => by subst e; rw [h.map.heap] at hq; cases hq), ownF_nil _ _, Nat.le_refl _⟩
  · rw [List.map_append, List.nodup_append]
    refine ⟨h.qs, by simp, fun a ha c hc => ?_⟩
    obtain ⟨x, hx, rfl⟩ := List.mem_map.1 ha
    simp at hc
    subst hc
    exact hqn x hx
  · rw [List.pairwise_append]
    refine ⟨h.gs, by simp, fun a ha c hc g hg => ?_⟩
    simp at hc
    subst hc
    simp [Value.ownBlock]
  · rw [List.map_append, h.fs]
    rfl
set_option maxHeartbeats 2000000 in
theorem fileOf_miss {w : World} {p b ck : Nat} {S : Dk} {xs : List X} (h : DiskAt w p b S xs ck) {nm : List UInt8} (hl : nm.length ≤ 281474976710656) (hn : ∀ y ∈ xs, y.nm ≠ nm) :
    Calls Try.prog 23 #[.pointer (some ⟨p, 0, none⟩), .string ⟨nm.toArray⟩] w fun e w' => e = .returned (.pointer (some ⟨w.heap.size, 0, none⟩)) ∧ DiskAt w' p b { S with fs := S.fs ++ [⟨nm, [], 0⟩] } (xs ++ [⟨nm, w.heap.size, ck, .slice none 0 0, [], 0⟩]) (ck + 1) ∧ Chg (fun g => g = b) w w' := by
  obtain ⟨c0, c1, c2, c3, c4⟩ := box5 h.box
  have HL := look_miss h.map hn
  have HN : Hid (∀ y ∈ xs, y.nm ≠ nm) := hn
  have HC : Hid (∀ w, Calls Try.prog 28 #[.string ⟨nm.toArray⟩] w fun e w' => e = .returned (.string ⟨nm.toArray⟩) ∧ Below w.heap.size w w') := clone_run nm hl
  obtain ⟨q, hq⟩ : ∃ q, q = w.heap.size := ⟨_, rfl⟩
  rw [← hq]
  obtain ⟨Y, hY⟩ : ∃ Y, w.alloc (.cells #[.slice none 0 0, .int .i64 0] 68) = Y := ⟨_, rfl⟩
  have hBY : Below w.heap.size w Y := by rw [← hY]; exact (Below.refl _ _).alloc (Nat.le_refl _) _
  have HD : Hid (DiskAt Y p b S xs ck) := h.below hBY
  have HQ : Hid (Y.heap[q]? = some (.cells #[.slice none 0 0, .int .i64 0] 68) ∧ (∀ x ∈ xs, x.q ≠ q) ∧ Below w.heap.size w Y ∧ q = w.heap.size ∧ DiskAt w p b S xs ck) := ⟨by rw [hq, ← hY]; exact (MapKept.heap_alloc w _).1, fun x hx e => by have := (h.file x hx).lt; omega, hBY, hq, h⟩
  have hp1 : Y.cell? ⟨p, 1, none⟩ = some (.map (some b)) := (box5 HD.out.box).2.1
  clear h hn hl hBY c0 c2 c3 c4
  have HS : Hid (q = w.heap.size) := hq
  go_enter Try.func23, Try.ntmps23
  go_wp2_with fail
  clear hY
  clear hq
  have hq := HS.out
  rw [← hq]
  clear hq HL
  refine wp_region_held_drew (S := (fun W => W.cell? ⟨p, 1, none⟩ = some (.map (some b)))) (by kernel_rfl) ?hS1 (fun hHeld => ?rest1)
  case hS1 => exact hp1
  refine takeD (i := 0) (d := some 16) (v := ?vT2) rfl rfl (by kernel_rfl) (by kernel_rfl) (by kernel_rfl) (fun _ _ _ h => h) (Or.inl ⟨by rfl, ?hyT2⟩) (by assumption) ?rstT2
  case hyT2 => (intro w hSw; (try dsimp only at hSw); go_simp; (try with_reducible rfl))
  try simp only [Act.put, List.setIfInBounds_toArray, List.set_cons_zero, List.set_cons_succ]
  refine takeD (i := 1) (d := some 17) (v := ?vT3) rfl rfl (by kernel_rfl) (by kernel_rfl) (by kernel_rfl) (fun _ _ _ h => h) (Or.inl ⟨by rfl, ?hyT3⟩) (by assumption) ?rstT3
  case hyT3 => (intro w hSw; (try dsimp only at hSw); go_simp; (try with_reducible rfl))
  try simp only [Act.put, List.setIfInBounds_toArray, List.set_cons_zero, List.set_cons_succ]
  refine takeD (i := 2) (d := some 18) (v := ?vT4) rfl rfl (by kernel_rfl) (by kernel_rfl) (by kernel_rfl) (fun _ _ _ h => h) (Or.inl ⟨by rfl, ?hyT4⟩) (by assumption) ?rstT4
  case hyT4 => (intro w hSw; (try dsimp only at hSw); go_simp; (try with_reducible rfl))
  try simp only [Act.put, List.setIfInBounds_toArray, List.set_cons_zero, List.set_cons_succ]
  refine takeD (i := 3) (d := some 19) (v := ?vT5) rfl rfl (by kernel_rfl) (by kernel_rfl) (by kernel_rfl) (fun _ _ _ h => h) (Or.inl ⟨by rfl, ?hyT5⟩) (by assumption) ?rstT5
  case hyT5 => (intro w hSw; (try dsimp only at hSw); go_simp; (try with_reducible rfl))
  try simp only [Act.put, List.setIfInBounds_toArray, List.set_cons_zero, List.set_cons_succ]
  refine takeD (i := 4) (d := some 20) (v := ?vT6) rfl rfl (by kernel_rfl) (by kernel_rfl) (by kernel_rfl) (fun _ _ _ h => h) (Or.inl ⟨by rfl, ?hyT6⟩) (by assumption) ?rstT6
  case hyT6 => (intro w hSw; (try dsimp only at hSw); go_simp; (try with_reducible rfl))
  try simp only [Act.put, List.setIfInBounds_toArray, List.set_cons_zero, List.set_cons_succ]
  refine takeD (i := 6) (d := some 22) (v := ?vT7) rfl rfl (by kernel_rfl) (by kernel_rfl) (by kernel_rfl) (fun _ _ _ h => h) (Or.inl ⟨by rfl, ?hyT7⟩) (by assumption) ?rstT7
  case hyT7 => (intro w hSw; (try dsimp only at hSw); go_simp; (try with_reducible rfl))
  try simp only [Act.put, List.setIfInBounds_toArray, List.set_cons_zero, List.set_cons_succ]
  refine wpAnyH_ready (rs := [5]) (by kernel_rfl) (by simp) ?_
  refine AllReadyH.cons rfl (fun K hK => ?_) AllReadyH.nil
  go_simp
  refine (HC.out _).mono ?_
  rintro e2 w2 ⟨rfl, hb2⟩
  have hcur2 : Below Y.heap.size Y w2 := (below_drewN (Below.refl _ _) 1).trans hb2
  clear hb2
  clear hHeld
  refine hK.out _ _ ?hS8 (fun hHeld => ?rest8)
  case hS8 => (show w2.cell? _ = _; exact (box5 (HD.out.below hcur2).box).2.1)
  clear hK K
  try simp only [Act.put, List.setIfInBounds_toArray, List.set_cons_zero, List.set_cons_succ]
  refine wpAnyH_ready (rs := [7]) (by kernel_rfl) (by simp) ?_
  refine AllReadyH.cons rfl (fun K hK => ?_) AllReadyH.nil
  obtain ⟨wu, hru, hmu, hCu, hsu⟩ := put_new (HD.out.below hcur2).map HN.out q (.slice none 0 0) [] 0
  go_simp
  clear hHeld
  refine hK.out _ _ ?hS9 (fun hHeld => ?rest9)
  case hS9 => (show wu.cell? _ = _; exact (box5 (hCu.block (HD.out.below hcur2).box HD.out.p_ne_b)).2.1)
  clear hK K
  try simp only [Act.put, List.setIfInBounds_toArray, List.set_cons_zero, List.set_cons_succ]
  refine wpAnyH_done (by kernel_rfl) ?_ _
  go_wp2_with fail
  go_ret
  refine ⟨rfl, ?_, ?_⟩
  · exact (HD.out.below hcur2).newFile hmu hCu (hcur2.block _ (Array.getElem?_eq_some_iff.1 HQ.out.1).1 |>.trans HQ.out.1) HQ.out.2.1
  · exact ((Chg.of_below HQ.out.2.2.1).trans (Chg.of_below hcur2)).trans hCu
end Go.Proofs.Ytjcfeaekhefpfaa
