import Derived.Test.YtjcfeaekhefpfaaDfB
/-! enter. -/
namespace Go.Proofs.Ytjcfeaekhefpfaa
open Go.RowKit Go.Lib Go.Sort Go.Shelf
set_option maxRecDepth 100000

structure FileL (W : World) (x : X) : Prop where
  box : W.heap[x.q]? = some (.cells #[x.v, .int .i64 (x.syn : Int)] 68)
  own : OwnF byU 1 5 W 0 x.v x.bs
/-- a disk that is being loaded: its files' bytes are not all there -/
structure LdAt (W : World) (p b lim : Nat) (xs : List X) (ck : Nat) : Prop where
  box : W.heap[p]? = some (.cells #[.int .i64 (lim : Int), .map (some b), .bool false, .int .i64 0, .int .i64 0] 63)
  map : MapAt W b xs ck
  file : ∀ x ∈ xs, FileL W x
  qs : (xs.map (·.q)).Nodup
  gs : xs.Pairwise (fun x y => ∀ g, x.v.ownBlock = some g → y.v.ownBlock ≠ some g)
theorem LdAt.chg {W W' : World} {p b lim ck : Nat} {xs : List X} {D : Nat → Prop} (h : LdAt W p b lim xs ck) (hC : Chg D W W') (hD : ∀ g, Blk p b xs g → ¬ D g) : LdAt W' p b lim xs ck :=
  ⟨hC.block h.box (hD p (.inl rfl)), h.map.chg hC (hD b (.inr (.inl rfl))), fun x hx => ⟨hC.block (h.file x hx).box (hD _ (.inr (.inr ⟨x, hx, .inl rfl⟩))), (h.file x hx).own.chg hC (fun g hg => hD g (.inr (.inr ⟨x, hx, .inr hg⟩)))⟩, h.qs, h.gs⟩
theorem LdAt.lt {W : World} {p b lim ck : Nat} {xs : List X} (h : LdAt W p b lim xs ck) {g : Nat} (hg : Blk p b xs g) : g < W.heap.size := by
  rcases hg with rfl | rfl | ⟨x, hx, rfl | hg⟩
  · exact (Array.getElem?_eq_some_iff.1 h.box).1
  · exact (Array.getElem?_eq_some_iff.1 h.map.heap).1
  · exact (Array.getElem?_eq_some_iff.1 (h.file x hx).box).1
  · exact (h.file x hx).own.lt hg
theorem LdAt.below {W W' : World} {p b lim ck : Nat} {xs : List X} (h : LdAt W p b lim xs ck) (hB : Below W.heap.size W W') : LdAt W' p b lim xs ck :=
  h.chg (D := fun g => W.heap.size ≤ g) (Chg.of_below hB) (fun g hg => by have := h.lt hg; omega)
theorem LdAt.p_ne_b {W : World} {p b lim ck : Nat} {xs : List X} (h : LdAt W p b lim xs ck) : p ≠ b := fun e => by
  have h1 := h.box
  rw [e, h.map.heap] at h1
  cases h1
theorem LdAt.b_ne_q {W : World} {p b lim ck : Nat} {xs : List X} (h : LdAt W p b lim xs ck) {x : X} (hx : x ∈ xs) : b ≠ x.q := fun e => by
  have h1 := (h.file x hx).box
  rw [← e, h.map.heap] at h1
  cases h1
theorem LdAt.b_ne_g {W : World} {p b lim ck : Nat} {xs : List X} (h : LdAt W p b lim xs ck) {x : X} (hx : x ∈ xs) {g : Nat} (hg : x.v.ownBlock = some g) : b ≠ g := fun e => by
  rcases (h.file x hx).own.2 with ⟨h0, _⟩ | ⟨g', cap, cur, hv, _, hh, _⟩
  · rw [h0] at hg
    cases hg
  · rw [hv] at hg
    have hgg : g' = g := by simpa [Value.ownBlock] using hg
    rw [hgg, ← e, h.map.heap] at hh
    cases hh
theorem DiskAt.ld {W : World} {p b ck lim : Nat} {xs : List X} {fs : List Fl} (h : DiskAt W p b ⟨lim, fs, false, 0, 0⟩ xs ck) : LdAt W p b lim xs ck :=
  ⟨h.box, h.map, fun x hx => ⟨(h.file x hx).box, (h.file x hx).own⟩, h.qs, h.gs⟩
theorem LdAt.disk {W : World} {p b ck lim : Nat} {xs : List X} (h : LdAt W p b lim xs ck) (hs : ∀ x ∈ xs, x.syn ≤ x.bs.length) : DiskAt W p b ⟨lim, xs.map X.fl, false, 0, 0⟩ xs ck :=
  ⟨h.box, h.map, fun x hx => ⟨(h.file x hx).box, (h.file x hx).own, hs x hx⟩, h.qs, h.gs, rfl⟩
theorem LdAt.newFile {W W' : World} {p b ck q lim y : Nat} {xs : List X} {nm : List UInt8} (h : LdAt W p b lim xs ck) (hm : MapAt W' b (xs ++ [⟨nm, q, ck, .slice none 0 0, [], y⟩]) (ck + 1)) (hC : Chg (fun g => g = b) W W') (hq : W.heap[q]? = some (.cells #[.slice none 0 0, .int .i64 (y : Int)] 68)) (hqn : ∀ x ∈ xs, x.q ≠ q) :
    LdAt W' p b lim (xs ++ [⟨nm, q, ck, .slice none 0 0, [], y⟩]) (ck + 1) := by
  refine ⟨hC.block h.box h.p_ne_b, hm, fun x hx => ?_, ?_, ?_⟩
  · rcases List.mem_append.1 hx with hx | hx
    · exact ⟨hC.block (h.file x hx).box (fun e => h.b_ne_q hx e.symm), (h.file x hx).own.chg hC (fun g hg e => h.b_ne_g hx hg e.symm)⟩
    · simp at hx
      subst hx
      exact ⟨hC.block hq (fun e => by subst e; rw [h.map.heap] at hq; cases hq), ownF_nil _ _⟩
  · rw [List.map_append, List.nodup_append]
    refine ⟨h.qs, by simp, fun a ha c hc => ?_⟩
    obtain ⟨x, hx, rfl⟩ := List.mem_map.1 ha
    simp at hc
    subst hc
    exact hqn x hx
  · rw [List.pairwise_append]
    refine ⟨h.gs, by simp, fun a ha c hc g hg => ?_⟩
    simp at hc
    subst hc
    simp [Value.ownBlock]
set_option maxHeartbeats 2000000 in
theorem enter_ok {w : World} {p b ck lim : Nat} {xs : List X} (h : LdAt w p b lim xs ck) {nm : List UInt8} (hok : nameOk nm = true) (hl : nm.length ≤ 281474976710656) (hn : ∀ y ∈ xs, y.nm ≠ nm) (a : Option Addr) (n c : Nat) (y : Nat) (hy : y ≤ n) :
    Calls Try.prog 39 #[.pointer (some ⟨p, 0, none⟩), .agg #[.string ⟨nm.toArray⟩, .slice a n c, .int .i64 (y : Int)]] w fun e w' => e = .returned (.int .i64 0) ∧ ∃ q, w.heap.size ≤ q ∧ LdAt w' p b lim (xs ++ [⟨nm, q, ck, .slice none 0 0, [], y⟩]) (ck + 1) ∧ Chg (fun g => g = b) w w' := by
  obtain ⟨W0, hW0⟩ : ∃ W0, w.alloc (.cells #[.string ⟨nm.toArray⟩, .slice a n c, .int .i64 (y : Int)] 39) = W0 := ⟨_, rfl⟩
  have hs0 : W0.heap.size = w.heap.size + 1 := by rw [← hW0, World.size_alloc]
  have hb0 : Below w.heap.size w W0 := by rw [← hW0]; exact (Below.refl _ _).alloc (Nat.le_refl _) _
  have hq0 : W0.heap[w.heap.size]? = some (.cells #[.string ⟨nm.toArray⟩, .slice a n c, .int .i64 (y : Int)] 39) := by rw [← hW0]; exact (MapKept.heap_alloc w _).1
  have hD0 := h.below hb0
  obtain ⟨c0, c1, c2, c3, c4⟩ := box5 hD0.box
  obtain ⟨s0, s1, s2⟩ := box3 hq0
  have HL := look_miss hD0.map hn
  have HNM : Hid (∀ w, Calls Try.prog 42 #[.string ⟨nm.toArray⟩] w fun e w' => e = .returned (.bool true) ∧ w' = w) := fun w => by have := isName_any nm (by omega) w; rwa [hok] at this
  have HC : Hid (∀ w, Calls Try.prog 28 #[.string ⟨nm.toArray⟩] w fun e w' => e = .returned (.string ⟨nm.toArray⟩) ∧ Below w.heap.size w w') := clone_run nm hl
  have HH : Hid (LdAt W0 p b lim xs ck ∧ (∀ y ∈ xs, y.nm ≠ nm) ∧ Below w.heap.size w W0 ∧ W0.heap.size = w.heap.size + 1) := ⟨hD0, hn, hb0, hs0⟩
  have HNB : Hid (¬ (w.heap.size = b)) := fun e => by have := h.lt (g := b) (.inr (.inl rfl)); omega
  have HKP : Hid (∀ X, Below W0.heap.size W0 X → X.cell? ⟨p, 1, none⟩ = some (.map (some b)) ∧ X.cell? ⟨w.heap.size, 0, none⟩ = some (.string ⟨nm.toArray⟩) ∧ X.cell? ⟨w.heap.size, 2, none⟩ = some (.int .i64 (y : Int))) := fun X hb => ⟨(box5 (hD0.below hb).box).2.1, (hb.cell (p := ⟨w.heap.size, 0, none⟩) (by simp only; omega)).trans s0, (hb.cell (p := ⟨w.heap.size, 2, none⟩) (by simp only; omega)).trans s2⟩
  have g1 : ¬ ((y : Int) < 0) := by omega
  have g2 : ¬ ((n : Int) < (y : Int)) := by omega
  clear h hn hl hb0 hs0 hq0 hD0 c0 c2 c3 c4 hok
  go_enter Try.func39, Try.ntmps39
  go_wp2_with fail
  refine (HNM.out _).mono ?_
  rintro e w1 ⟨rfl, hz⟩
  rw [hz]
  clear hz w1
  go_wp2_with fail
  refine wp_region_held_drew (S := (fun W => W.cell? ⟨p, 1, none⟩ = some (.map (some b)) ∧ W.cell? ⟨w.heap.size, 0, none⟩ = some (.string ⟨nm.toArray⟩) ∧ (Instr.lookup 59 (.map (some b)) (.string ⟨nm.toArray⟩) false).run Try.prog W = .ok (.pointer none) W)) (by kernel_rfl) ?hS1 (fun hHeld => ?rest1)
  case hS1 => exact ⟨c1, s0, look_miss (HH.out.1.map.chg (D := fun _ => False) ((Chg.refl _ _).drew) (fun f => f)) HH.out.2.1⟩
  refine takeD (i := 0) (d := some 9) (v := ?vT2) rfl rfl (by kernel_rfl) (by kernel_rfl) (by kernel_rfl) (fun _ _ _ h => h) (Or.inl ⟨by rfl, ?hyT2⟩) (by assumption) ?rstT2
  case hyT2 => (intro w hSw; obtain ⟨hSa, hSb, hSc⟩ := hSw; go_simp; (try with_reducible rfl))
  try simp only [Act.put, List.setIfInBounds_toArray, List.set_cons_zero, List.set_cons_succ]
  refine takeD (i := 1) (d := some 10) (v := ?vT3) rfl rfl (by kernel_rfl) (by kernel_rfl) (by kernel_rfl) (fun _ _ _ h => h) (Or.inl ⟨by rfl, ?hyT3⟩) (by assumption) ?rstT3
  case hyT3 => (intro w hSw; obtain ⟨hSa, hSb, hSc⟩ := hSw; go_simp; (try with_reducible rfl))
  try simp only [Act.put, List.setIfInBounds_toArray, List.set_cons_zero, List.set_cons_succ]
  refine takeD (i := 2) (d := some 11) (v := ?vT4) rfl rfl (by kernel_rfl) (by kernel_rfl) (by kernel_rfl) (fun _ _ _ h => h) (Or.inl ⟨by rfl, ?hyT4⟩) (by assumption) ?rstT4
  case hyT4 => (intro w hSw; obtain ⟨hSa, hSb, hSc⟩ := hSw; go_simp; (try with_reducible rfl))
  try simp only [Act.put, List.setIfInBounds_toArray, List.set_cons_zero, List.set_cons_succ]
  refine takeD (i := 3) (d := some 12) (v := ?vT5) rfl rfl (by kernel_rfl) (by kernel_rfl) (by kernel_rfl) (fun _ _ _ h => h) (Or.inl ⟨by rfl, ?hyT5⟩) (by assumption) ?rstT5
  case hyT5 => (intro w hSw; obtain ⟨hSa, hSb, hSc⟩ := hSw; go_simp; (try with_reducible rfl))
  try simp only [Act.put, List.setIfInBounds_toArray, List.set_cons_zero, List.set_cons_succ]
  refine takeD (i := 4) (d := some 13) (v := ?vT6) rfl rfl (by kernel_rfl) (by kernel_rfl) (by kernel_rfl) (fun _ _ _ h => h) (Or.inl ⟨by rfl, ?hyT6⟩) (by assumption) ?rstT6
  case hyT6 => (intro w hSw; obtain ⟨hSa, hSb, hSc⟩ := hSw; go_simp; (try with_reducible rfl))
  try simp only [Act.put, List.setIfInBounds_toArray, List.set_cons_zero, List.set_cons_succ]
  refine takeD (i := 5) (d := some 14) (v := ?vT7) rfl rfl (by kernel_rfl) (by kernel_rfl) (by kernel_rfl) (fun _ _ _ h => h) (Or.inl ⟨by rfl, ?hyT7⟩) (by assumption) ?rstT7
  case hyT7 => (intro w hSw; obtain ⟨hSa, hSb, hSc⟩ := hSw; go_simp; (try with_reducible rfl))
  try simp only [Act.put, List.setIfInBounds_toArray, List.set_cons_zero, List.set_cons_succ]
  refine takeD (i := 6) (d := some 15) (v := ?vT8) rfl rfl (by kernel_rfl) (by kernel_rfl) (by kernel_rfl) (fun _ _ _ h => h) (Or.inl ⟨by rfl, ?hyT8⟩) (by assumption) ?rstT8
  case hyT8 => (intro w hSw; obtain ⟨hSa, hSb, hSc⟩ := hSw; go_simp; (try with_reducible rfl))
  try simp only [Act.put, List.setIfInBounds_toArray, List.set_cons_zero, List.set_cons_succ]
  refine takeD (i := 7) (d := some 16) (v := ?vT9) rfl rfl (by kernel_rfl) (by kernel_rfl) (by kernel_rfl) (fun _ _ _ h => h) (Or.inl ⟨by rfl, ?hyT9⟩) (by assumption) ?rstT9
  case hyT9 => (intro w hSw; obtain ⟨hSa, hSb, hSc⟩ := hSw; go_simp; (try with_reducible rfl))
  try simp only [Act.put, List.setIfInBounds_toArray, List.set_cons_zero, List.set_cons_succ]
  refine wpAnyH_done (by kernel_rfl) ?_ _
  go_wp2_with fail
  refine wp_region_held_drew (S := (fun W => W.cell? ⟨p, 1, none⟩ = some (.map (some b)) ∧ W.cell? ⟨w.heap.size, 0, none⟩ = some (.string ⟨nm.toArray⟩) ∧ W.cell? ⟨w.heap.size, 2, none⟩ = some (.int .i64 (y : Int)))) (by kernel_rfl) ?hS16 (fun hHeld => ?rest16)
  case hS16 => exact ⟨c1, s0, s2⟩
  refine takeD (i := 0) (d := some 28) (v := ?vT17) rfl rfl (by kernel_rfl) (by kernel_rfl) (by kernel_rfl) (fun _ _ _ h => h) (Or.inl ⟨by rfl, ?hyT17⟩) (by assumption) ?rstT17
  case hyT17 => (intro w hSw; obtain ⟨hSa, hSb, hSc⟩ := hSw; go_simp; (try with_reducible rfl))
  try simp only [Act.put, List.setIfInBounds_toArray, List.set_cons_zero, List.set_cons_succ]
  refine takeD (i := 1) (d := some 29) (v := ?vT18) rfl rfl (by kernel_rfl) (by kernel_rfl) (by kernel_rfl) (fun _ _ _ h => h) (Or.inl ⟨by rfl, ?hyT18⟩) (by assumption) ?rstT18
  case hyT18 => (intro w hSw; obtain ⟨hSa, hSb, hSc⟩ := hSw; go_simp; (try with_reducible rfl))
  try simp only [Act.put, List.setIfInBounds_toArray, List.set_cons_zero, List.set_cons_succ]
  refine takeD (i := 2) (d := some 30) (v := ?vT19) rfl rfl (by kernel_rfl) (by kernel_rfl) (by kernel_rfl) (fun _ _ _ h => h) (Or.inl ⟨by rfl, ?hyT19⟩) (by assumption) ?rstT19
  case hyT19 => (intro w hSw; obtain ⟨hSa, hSb, hSc⟩ := hSw; go_simp; (try with_reducible rfl))
  try simp only [Act.put, List.setIfInBounds_toArray, List.set_cons_zero, List.set_cons_succ]
  refine takeD (i := 3) (d := some 31) (v := ?vT20) rfl rfl (by kernel_rfl) (by kernel_rfl) (by kernel_rfl) (fun _ _ _ h => h) (Or.inl ⟨by rfl, ?hyT20⟩) (by assumption) ?rstT20
  case hyT20 => (intro w hSw; obtain ⟨hSa, hSb, hSc⟩ := hSw; go_simp; (try with_reducible rfl))
  try simp only [Act.put, List.setIfInBounds_toArray, List.set_cons_zero, List.set_cons_succ]
  refine takeD (i := 4) (d := some 32) (v := ?vT21) rfl rfl (by kernel_rfl) (by kernel_rfl) (by kernel_rfl) (fun _ _ _ h => h) (Or.inl ⟨by rfl, ?hyT21⟩) (by assumption) ?rstT21
  case hyT21 => (intro w hSw; obtain ⟨hSa, hSb, hSc⟩ := hSw; go_simp; (try with_reducible rfl))
  try simp only [Act.put, List.setIfInBounds_toArray, List.set_cons_zero, List.set_cons_succ]
  refine takeD (i := 5) (d := some 33) (v := ?vT22) rfl rfl (by kernel_rfl) (by kernel_rfl) (by kernel_rfl) (fun _ _ _ h => h) (Or.inl ⟨by rfl, ?hyT22⟩) (by assumption) ?rstT22
  case hyT22 => (intro w hSw; obtain ⟨hSa, hSb, hSc⟩ := hSw; go_simp; (try with_reducible rfl))
  try simp only [Act.put, List.setIfInBounds_toArray, List.set_cons_zero, List.set_cons_succ]
  refine takeD (i := 7) (d := some 35) (v := ?vT23) rfl rfl (by kernel_rfl) (by kernel_rfl) (by kernel_rfl) (fun _ _ _ h => h) (Or.inl ⟨by rfl, ?hyT23⟩) (by assumption) ?rstT23
  case hyT23 => (intro w hSw; obtain ⟨hSa, hSb, hSc⟩ := hSw; go_simp; (try with_reducible rfl))
  try simp only [Act.put, List.setIfInBounds_toArray, List.set_cons_zero, List.set_cons_succ]
  refine takeD (i := 8) (d := some 36) (v := ?vT24) rfl rfl (by kernel_rfl) (by kernel_rfl) (by kernel_rfl) (fun _ _ _ h => h) (Or.inl ⟨by rfl, ?hyT24⟩) (by assumption) ?rstT24
  case hyT24 => (intro w hSw; obtain ⟨hSa, hSb, hSc⟩ := hSw; go_simp; (try with_reducible rfl))
  try simp only [Act.put, List.setIfInBounds_toArray, List.set_cons_zero, List.set_cons_succ]
  refine takeD (i := 9) (d := some 37) (v := ?vT25) rfl rfl (by kernel_rfl) (by kernel_rfl) (by kernel_rfl) (fun _ _ _ h => h) (Or.inl ⟨by rfl, ?hyT25⟩) (by assumption) ?rstT25
  case hyT25 => (intro w hSw; obtain ⟨hSa, hSb, hSc⟩ := hSw; go_simp; (try with_reducible rfl))
  try simp only [Act.put, List.setIfInBounds_toArray, List.set_cons_zero, List.set_cons_succ]
  refine wpAnyH_ready (rs := [6, 10]) (by kernel_rfl) (by simp) ?_
  refine AllReadyH.cons rfl (fun K hK => ?bA) (AllReadyH.cons rfl (fun K hK => ?bB) AllReadyH.nil)
  case bA =>
    go_simp
    refine (HC.out _).mono ?_
    rintro e2 w2 ⟨rfl, hb2⟩
    have hcur2 : Below W0.heap.size W0 w2 := ((Below.refl _ _).drew.drew).trans hb2
    clear hb2
    clear hHeld
    refine hK.out _ _ ?hS10 (fun hHeld => ?rest10)
    case hS10 => exact HKP.out _ hcur2
    clear hK K
    try simp only [Act.put, List.setIfInBounds_toArray, List.set_cons_zero, List.set_cons_succ]
    refine wpAnyH_ready (rs := [10]) (by kernel_rfl) (by simp) ?_
    refine AllReadyH.cons rfl (fun K hK => ?_) AllReadyH.nil
    go_simp
    have hcur3 : Below W0.heap.size W0 (w2.alloc (.cells #[.slice none 0 0, .int .i64 (y : Int)] 68)) := hcur2.alloc hcur2.size _
    clear hHeld
    refine hK.out _ _ ?hS11 (fun hHeld => ?rest11)
    case hS11 => exact HKP.out _ hcur3
    clear hK K
    try simp only [Act.put, List.setIfInBounds_toArray, List.set_cons_zero, List.set_cons_succ]
    refine wpAnyH_ready (rs := [11]) (by kernel_rfl) (by simp) ?_
    refine AllReadyH.cons rfl (fun K hK => ?_) AllReadyH.nil
    obtain ⟨wu, hru, hmu, hCu, hsu⟩ := put_new (HH.out.1.below hcur3).map HH.out.2.1 w2.heap.size (.slice none 0 0) [] y
    have HF : Hid (LdAt wu p b lim (xs ++ [⟨nm, w2.heap.size, ck, .slice none 0 0, [], y⟩]) (ck + 1) ∧ Chg (fun g => g = b) w wu) := ⟨(HH.out.1.below hcur3).newFile hmu hCu (MapKept.heap_alloc w2 _).1 (fun x hx e => by have h1 := HH.out.1.lt (g := x.q) (.inr (.inr ⟨x, hx, .inl rfl⟩)); have h2 := (hcur3).size; have h3 := hcur2.size; omega), ((Chg.of_below HH.out.2.2.1).trans (Chg.of_below hcur3)).trans hCu⟩
    go_simp
    clear hHeld
    refine hK.out _ _ ?hS12 (fun hHeld => ?rest12)
    case hS12 => exact ⟨(box5 (HF.out.1.box)).2.1, (hCu.cell (p := ⟨w.heap.size, 0, none⟩) (by have := (hcur3).size; have := HH.out.2.2.2; simp only; omega) HNB.out).trans ((HKP.out _ (hcur3)).2.1), (hCu.cell (p := ⟨w.heap.size, 2, none⟩) (by have := (hcur3).size; have := HH.out.2.2.2; simp only; omega) HNB.out).trans ((HKP.out _ (hcur3)).2.2)⟩
    clear hK K
    try simp only [Act.put, List.setIfInBounds_toArray, List.set_cons_zero, List.set_cons_succ]
    refine wpAnyH_done (by kernel_rfl) ?_ _
    go_wp2_with fail
    go_ret
    exact ⟨rfl, w2.heap.size, by have := HH.out.2.2.2; have := hcur2.size; omega, HF.out.1, HF.out.2⟩
  case bB =>
    go_simp
    clear hHeld
    refine hK.out _ _ ?hS13 (fun hHeld => ?rest13)
    case hS13 => exact HKP.out _ (((Below.refl _ _).drew.drew).alloc (Nat.le_refl _) _)
    clear hK K
    try simp only [Act.put, List.setIfInBounds_toArray, List.set_cons_zero, List.set_cons_succ]
    refine wpAnyH_ready (rs := [6]) (by kernel_rfl) (by simp) ?_
    refine AllReadyH.cons rfl (fun K hK => ?_) AllReadyH.nil
    go_simp
    refine (HC.out _).mono ?_
    rintro e2 w2 ⟨rfl, hb2⟩
    have hcur1 : Below W0.heap.size W0 (W0.drew.drew.alloc (.cells #[.slice none 0 0, .int .i64 (y : Int)] 68)) := ((Below.refl _ _).drew.drew).alloc (Nat.le_refl _) _
    have hcur2 : Below W0.heap.size W0 w2 := hcur1.trans (hb2.mono hcur1.size)
    have hq2 : w2.heap[W0.heap.size]? = some (.cells #[.slice none 0 0, .int .i64 (y : Int)] 68) := (hb2.block W0.heap.size (by show W0.heap.size < (W0.drew.drew.alloc _).heap.size; rw [World.size_alloc]; exact Nat.lt_succ_self _)).trans (MapKept.heap_alloc W0.drew.drew _).1
    clear hb2
    clear hHeld
    refine hK.out _ _ ?hS14 (fun hHeld => ?rest14)
    case hS14 => exact HKP.out _ hcur2
    clear hK K
    try simp only [Act.put, List.setIfInBounds_toArray, List.set_cons_zero, List.set_cons_succ]
    refine wpAnyH_ready (rs := [11]) (by kernel_rfl) (by simp) ?_
    refine AllReadyH.cons rfl (fun K hK => ?_) AllReadyH.nil
    obtain ⟨wu, hru, hmu, hCu, hsu⟩ := put_new (HH.out.1.below hcur2).map HH.out.2.1 W0.heap.size (.slice none 0 0) [] y
    have HF : Hid (LdAt wu p b lim (xs ++ [⟨nm, W0.heap.size, ck, .slice none 0 0, [], y⟩]) (ck + 1) ∧ Chg (fun g => g = b) w wu) := ⟨(HH.out.1.below hcur2).newFile hmu hCu hq2 (fun x hx e => by have h1 := HH.out.1.lt (g := x.q) (.inr (.inr ⟨x, hx, .inl rfl⟩)); have h2 := (hcur2).size; have h3 := hcur2.size; omega), ((Chg.of_below HH.out.2.2.1).trans (Chg.of_below hcur2)).trans hCu⟩
    go_simp
    clear hHeld
    refine hK.out _ _ ?hS15 (fun hHeld => ?rest15)
    case hS15 => exact ⟨(box5 (HF.out.1.box)).2.1, (hCu.cell (p := ⟨w.heap.size, 0, none⟩) (by have := (hcur2).size; have := HH.out.2.2.2; simp only; omega) HNB.out).trans ((HKP.out _ (hcur2)).2.1), (hCu.cell (p := ⟨w.heap.size, 2, none⟩) (by have := (hcur2).size; have := HH.out.2.2.2; simp only; omega) HNB.out).trans ((HKP.out _ (hcur2)).2.2)⟩
    clear hK K
    try simp only [Act.put, List.setIfInBounds_toArray, List.set_cons_zero, List.set_cons_succ]
    refine wpAnyH_done (by kernel_rfl) ?_ _
    go_wp2_with fail
    go_ret
    exact ⟨rfl, W0.heap.size, by have := HH.out.2.2.2; have := hcur2.size; omega, HF.out.1, HF.out.2⟩
end Go.Proofs.Ytjcfeaekhefpfaa
