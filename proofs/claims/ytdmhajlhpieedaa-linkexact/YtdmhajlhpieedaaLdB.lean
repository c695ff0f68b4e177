import Derived.Test.YtdmhajlhpieedaaLdA
/-! The reference's add. -/
namespace Go.Proofs.Ytdmhajlhpieedaa
open Go.RowKit Go.Lib Go.Shelf
set_option maxRecDepth 100000

theorem radd_mem {W V W6 W7 W8 : World} {r : Nat} {S : Lk} {rv rv' : Value} {ys : List X} {fr tt : Int} {a' : Option Addr} {c' : Nat} {bs : List UInt8} {sp : Bool} (h : RefAt W r S rv ys) (hb3 : Below W.heap.size W V)
    (ho : OwnF byU 1 5 V W.heap.size (.slice a' bs.length c') bs) (hap : OffF fv 5 73 W6 rv' (ys ++ [⟨S.next, fr, tt, a', c', bs, sp⟩])) (hC6 : Chg (fun g => rv.ownBlock = some g) V W6) (hrv : ∀ g, rv'.ownBlock = some g → rv.ownBlock = some g ∨ V.heap.size ≤ g)
    (h7 : W6.setCell ⟨r, 3, none⟩ rv' = W7) (h8 : W7.setCell ⟨r, 2, none⟩ (.int .i64 ((S.next : Int) + 1)) = W8) : RNx W W8 r rv ys (begS S ⟨S.next, fr, tt, bs, sp⟩) := by
  have hs := hb3.size
  have hq := h.rlt
  have hbx6 : W6.heap[r]? = some (.cells #[.int .i64 (S.nodes : Int), .int .i64 (S.most : Int), .int .i64 (S.next : Int), rv] 90) := hC6.block ((hb3.block r hq).trans h.box) (fun e => h.r_ne e rfl)
  have hbx7 := heap_setCell_cells hbx6 3 rv'
  rw [h7] at hbx7
  have hbx8 := heap_setCell_cells hbx7 2 (.int .i64 ((S.next : Int) + 1))
  rw [h8] at hbx8
  have hC8 : Chg (fun k => k = r) W6 W8 := by
    rw [← h8, ← h7]
    exact (Chg.set (D := fun k => k = r) (q := r) 3 _ _ rfl).trans (Chg.set (D := fun k => k = r) (q := r) 2 _ _ rfl)
  have hC38 : Chg (fun k => k = r ∨ rv.ownBlock = some k) V W8 := (hC6.mono (fun k _ e => .inr e)).trans (hC8.mono (fun k _ e => .inl e))
  have hC : Chg (fun k => k = r ∨ rv.ownBlock = some k) W W8 := (Chg.of_below hb3).trans hC38
  have hblk : ∀ k, rv.ownBlock = some k → k < W.heap.size := fun k hk => h.row.lt hk
  refine ⟨rv', ys ++ [⟨S.next, fr, tt, a', c', bs, sp⟩], ⟨?_, hap.chg hC8 (fun k hk e => ?_), fun y hy => ?_, ?_⟩, hC.mono (fun g _ e => by rcases e with e | e; exact .inl e; exact .inr (.inl e)), fun k hk => ?_⟩
  · rw [hbx8]; simp [begS]
  · subst e
    rcases hrv k hk with h1 | h1
    · exact h.r_ne h1 rfl
    · omega
  · rcases List.mem_append.1 hy with hy | hy
    · exact (h.own y hy).chg hC (fun k hk e => by
        rcases e with rfl | e
        · exact h.r_ney hy hk rfl
        · exact h.v_ney e hy hk rfl)
    · simp only [List.mem_singleton] at hy
      subst hy
      refine (OwnF.chg ho hC38 (fun k hk e => ?_)).mono (Nat.zero_le _)
      have h1 := ho.ge hk
      rcases e with e | e
      · omega
      · have := hblk _ e; omega
  · simp [begS, h.fl, X.fg]
  · rcases hk with rfl | hk | ⟨y, hy, hk⟩
    · exact .inl (.inl rfl)
    · rcases hrv k hk with h1 | h1
      · exact .inl (.inr (.inl h1))
      · exact .inr (by omega)
    · rcases List.mem_append.1 hy with hy | hy
      · exact .inl (.inr (.inr ⟨y, hy, hk⟩))
      · simp only [List.mem_singleton] at hy
        subst hy
        exact .inr (ho.ge hk)
/-- The second half of add, as memory. -/
theorem radd_half {W V : World} {r gf : Nat} {S : Lk} {rv : Value} {ys : List X} {nx fr tt : Int} {a' : Option Addr} {bl c' : Nat} {bs : List UInt8} {sp : Bool} (h : RefAt W r S rv ys) (hl : ys.length + 1 ≤ 1048576) (hnx : (S.next : Int) = nx) (hbl : bs.length = bl) (hb3 : Below W.heap.size W V)
    (ho : OwnF byU 1 5 V W.heap.size (.slice a' bl c') bs) (hgf : W.heap.size ≤ gf) (hx : V.heap[gf]? = some (.cells #[.int .i64 nx, .int .i64 fr, .int .i64 tt, .slice a' bl c', .bool sp] 73)) :
    ∃ a n cap a2 n2 cap2 W6 W7 W8, V.cell? ⟨r, 3, none⟩ = some (.slice a n cap) ∧ (V.alloc (.cells #[.int .i64 nx, .int .i64 fr, .int .i64 tt, .slice a' bl c', .bool sp] 73)).cell? ⟨r, 3, none⟩ = some (.slice a n cap) ∧
      (Builtin.append_ #[52, 52] 52 #[.slice a n cap, .slice (some ⟨V.heap.size, 0, none⟩) 1 1]).run Try.prog (V.drew.alloc (.cells #[.int .i64 nx, .int .i64 fr, .int .i64 tt, .slice a' bl c', .bool sp] 73)) = .ok (.slice a2 n2 cap2) W6 ∧
      W6.cell? ⟨r, 3, none⟩ = some (.slice a n cap) ∧ W6.frozen? ⟨r, 3, none⟩ = false ∧ W6.setCell ⟨r, 3, none⟩ (.slice a2 n2 cap2) = W7 ∧ W7.cell? ⟨r, 2, none⟩ = some (.int .i64 nx) ∧ W7.frozen? ⟨r, 2, none⟩ = false ∧ W7.setCell ⟨r, 2, none⟩ (.int .i64 (nx + 1)) = W8 ∧ W8.cell? ⟨gf, 0, none⟩ = some (.int .i64 nx) ∧
      Hid (RNx W W8 r rv ys (begS S ⟨S.next, fr, tt, bs, sp⟩)) := by
  have hq := h.rlt
  have hLV := h.below hb3
  obtain ⟨rv', W6, hap, hoff, hC6, hrv⟩ := offF_append kindV layV (W := V.drew) (hLV.row.chg (Chg.refl (fun _ => False) V).drew (fun _ _ h => h)) ⟨S.next, fr, tt, a', c', bs, sp⟩ #[.int .i64 nx, .int .i64 fr, .int .i64 tt, .slice a' bl c', .bool sp] (by simp [fv, hbl, hnx]) 73 (by omega) (by omega) 52
  have hC6' : Chg (fun g => rv.ownBlock = some g) V W6 := ((Chg.refl _ V).drew).trans hC6
  have hbxV := hLV.box
  have hbx6 : W6.heap[r]? = some (.cells #[.int .i64 (S.nodes : Int), .int .i64 (S.most : Int), .int .i64 (S.next : Int), rv] 90) := hC6'.block hbxV (fun e => h.r_ne e rfl)
  have hbx7 := heap_setCell_cells hbx6 3 rv'
  have hbx7' : (W6.setCell ⟨r, 3, none⟩ rv').heap[r]? = some (.cells #[.int .i64 (S.nodes : Int), .int .i64 (S.most : Int), .int .i64 (S.next : Int), rv'] 90) := hbx7
  obtain ⟨a, cap, erv, _, _⟩ := h.row.shape
  obtain ⟨a2, cap2, erv', _, _⟩ := hoff.shape
  have hP := radd_mem h hb3 (by rw [hbl]; exact ho) hoff hC6' (fun k hk => hrv k hk) rfl rfl
  have e3 : V.cell? ⟨r, 3, none⟩ = some rv := (box4 hbxV).2.2.2
  have hgV : gf < V.heap.size := (Array.getElem?_eq_some_iff.1 hx).1
  have hx6 : W6.heap[gf]? = some (.cells #[.int .i64 nx, .int .i64 fr, .int .i64 tt, .slice a' bl c', .bool sp] 73) := hC6'.block hx (fun e => by have := h.row.lt e; omega)
  have hC8 : Chg (fun k => k = r) W6 ((W6.setCell ⟨r, 3, none⟩ rv').setCell ⟨r, 2, none⟩ (.int .i64 ((S.next : Int) + 1))) := (Chg.set (D := fun k => k = r) (q := r) 3 _ _ rfl).trans (Chg.set (D := fun k => k = r) (q := r) 2 _ _ rfl)
  have hx8 := hC8.block hx6 (by omega)
  refine ⟨a, ys.length, cap, a2, (ys ++ [(⟨S.next, fr, tt, a', c', bs, sp⟩ : X)]).length, cap2, W6, W6.setCell ⟨r, 3, none⟩ rv', _, erv ▸ e3, ?_, ?_, ?_, Lib.frozen_of_heap hbx6 3, by rw [erv'], ?_, Lib.frozen_of_heap hbx7' 2, rfl, ?_, ?_⟩
  · exact (((Below.refl V.heap.size V).alloc (Nat.le_refl _) _).cell (p := ⟨r, 3, none⟩) hLV.rlt).trans (erv ▸ e3)
  · rw [← erv, ← erv']; exact hap
  · rw [← erv]; exact (box4 hbx6).2.2.2
  · rw [← hnx]; exact (box4 hbx7').2.2.1
  · rw [← hnx]; rw [hnx] at hx8 ⊢; exact (box5 hx8).1
  · rw [← hnx]; exact hP
set_option maxHeartbeats 8000000 in
theorem radd_any {W : World} {r : Nat} {S : Lk} {rv : Value} {ys : List X} (h : RefAt W r S rv ys) (hO : S.Ok) (hl : ys.length + 1 ≤ 1048576) (fr tt : Int) {b : Option Addr} {bl c : Nat} {bs : List UInt8} (hb : Rw byU 1 W b bl c bs) (hm : bl ≤ 140737488355328) (sp : Bool) :
    Calls Try.prog 54 #[.pointer (some ⟨r, 0, none⟩), .agg #[.int .i64 fr, .int .i64 tt, .slice b bl c], .bool sp] W fun e W' => e = .returned (.int .i64 (S.next : Int)) ∧ RNx W W' r rv ys (begS S ⟨S.next, fr, tt, bs, sp⟩) := by
  have hnx := hO.next
  have hbl := hb.len
  obtain ⟨nx, hn⟩ : ∃ nx : Int, (S.next : Int) = nx := ⟨_, rfl⟩
  have e1 : IntKind.i64.wrap (nx + 1) = nx + 1 := IntWalk.i64_in _ (by omega)
  obtain ⟨W0, hW0⟩ : ∃ W0, W.alloc (.cells #[.int .i64 fr, .int .i64 tt, .slice b bl c] 36) = W0 := ⟨_, rfl⟩
  have hB0 : Below W.heap.size W W0 := by rw [← hW0]; exact (Below.refl _ _).alloc (Nat.le_refl _) _
  have hs0 : W0.heap.size = W.heap.size + 1 := by rw [← hW0]; exact World.size_alloc ..
  have hx0 : W0.heap[W.heap.size]? = some (.cells #[.int .i64 fr, .int .i64 tt, .slice b bl c] 36) := by rw [← hW0]; exact heap_alloc_new W _
  have hb0 := hb.below hB0
  have hr := h.rlt
  have hq0 := (hB0.block r hr).trans h.box
  obtain ⟨b0, hb00⟩ : ∃ b0, W.heap.size = b0 := ⟨_, rfl⟩
  have hB00 : Hid (Below W0.heap.size W0 W0.drew) := (Below.refl _ _).drew
  have hB01 : Hid (Below W0.heap.size W0 (W0.drew.alloc (.cells #[.int .i64 0, .int .i64 0, .int .i64 0, .slice none 0 0, .bool false] 73))) := hB00.out.trans ((Below.refl W0.heap.size W0.drew).alloc (Nat.le_refl _) _)
  have hBc := hB00
  have HKB : Hid (∀ w, Below W0.heap.size W0 w → (fun w => w.cell? ⟨r, 2, none⟩ = some (.int .i64 nx) ∧ w.cell? ⟨b0, 0, none⟩ = some (.int .i64 fr) ∧ w.cell? ⟨b0, 1, none⟩ = some (.int .i64 tt) ∧ w.cell? ⟨b0, 2, none⟩ = some (.slice b bl c)) w) := fun w hw => by
    have hp := (hw.block W.heap.size (by omega)).trans hx0
    have hq := (hw.block r (by omega)).trans hq0
    rw [hb00] at hp
    obtain ⟨p0, p1, p2⟩ := box3 hp
    exact ⟨hn ▸ (box4 hq).2.2.1, p0, p1, p2⟩
  have HC : Hid (∀ w, Below W0.heap.size W0 w → Calls Try.prog 53 #[.agg #[.int .i64 nx, .int .i64 fr, .int .i64 tt, .slice b bl c, .bool sp]] w fun e w' => ∃ a' c', e = .returned (.agg #[.int .i64 nx, .int .i64 fr, .int .i64 tt, .slice a' bl c', .bool sp]) ∧ CloP w bl bs a' c' w') := fun w hw => clone_any nx fr tt sp (hb0.below hw) hm
  have HOA : Hid (∀ (w w1 w2 : World) a' c', Below W0.heap.size W0 w → OwnF byU 1 5 w1 w.heap.size (.slice a' bl c') bs → Below w1.heap.size w1 w2 → OwnF byU 1 5 w2 W.heap.size (.slice a' bl c') bs) := fun w w1 w2 a' c' hw ho h2 => (ho.chg (D := fun g => w1.heap.size ≤ g) (Chg.of_below h2) (fun g hg => by have := ho.lt hg; omega)).mono (by have := hw.size; omega)
  have HM : Hid (∀ gf Vb V a' c', Below W0.heap.size W0 Vb → W0.heap.size ≤ gf → OwnF byU 1 5 Vb W.heap.size (.slice a' bl c') bs → Chg (fun k => k = gf) Vb V → Vb.heap[gf]? = some (.cells #[.int .i64 0, .int .i64 0, .int .i64 0, .slice none 0 0, .bool false] 73) → V.heap[gf]? = some (.cells #[.int .i64 nx, .int .i64 fr, .int .i64 tt, .slice a' bl c', .bool sp] 73) → _) := fun gf Vb V a' c' hV hg ho hC hy hx => radd_half (W := W) (V := V) (gf := gf) (nx := nx) (fr := fr) (tt := tt) (a' := a') (c' := c') (sp := sp) h hl hn hbl (hB0.trans ((hV.mono hB0.size).trans (hC.below (fun k e => by omega) (by have := hV.size; omega)))) (ho.chg hC (fun k hk e => by
    subst e
    obtain ⟨cur, hh⟩ := own_block (ho.mono (Nat.zero_le _)) hk
    rw [hy] at hh; simp at hh)) (by omega) hx
  rw [hn]
  clear h hO hl hb hm hnx hbl hB0 hs0 hx0 hb0 hr hq0 hn
  go_enter Try.func54, Try.ntmps54
  go_wp2_with fail
  refine wp_region_held_drew (S := (fun w => w.cell? ⟨r, 2, none⟩ = some (.int .i64 nx) ∧ w.cell? ⟨b0, 0, none⟩ = some (.int .i64 fr) ∧ w.cell? ⟨b0, 1, none⟩ = some (.int .i64 tt) ∧ w.cell? ⟨b0, 2, none⟩ = some (.slice b bl c))) (by kernel_rfl) ?hSx (fun hHeld => ?restx)
  case hSx => exact HKB.out _ hBc.out
  refine takeD (i := 0) (d := some 8) (v := ?vT1) rfl rfl (by kernel_rfl) (by kernel_rfl) (by kernel_rfl) (fun _ _ _ h => h) (Or.inl ⟨by rfl, ?hyT1⟩) (by assumption) ?rstT1
  case hyT1 => (intro w hSw; (try dsimp only at hSw); obtain ⟨s0, s1, s2, s3⟩ := hSw; go_simp; (try with_reducible rfl))
  try simp only [Act.put, List.setIfInBounds_toArray, List.set_cons_zero, List.set_cons_succ]
  refine takeD (i := 1) (d := some 9) (v := ?vT2) rfl rfl (by kernel_rfl) (by kernel_rfl) (by kernel_rfl) (fun _ _ _ h => h) (Or.inl ⟨by rfl, ?hyT2⟩) (by assumption) ?rstT2
  case hyT2 => (intro w hSw; (try dsimp only at hSw); obtain ⟨s0, s1, s2, s3⟩ := hSw; go_simp; (try with_reducible rfl))
  try simp only [Act.put, List.setIfInBounds_toArray, List.set_cons_zero, List.set_cons_succ]
  refine takeD (i := 2) (d := some 10) (v := ?vT3) rfl rfl (by kernel_rfl) (by kernel_rfl) (by kernel_rfl) (fun _ _ _ h => h) (Or.inl ⟨by rfl, ?hyT3⟩) (by assumption) ?rstT3
  case hyT3 => (intro w hSw; (try dsimp only at hSw); obtain ⟨s0, s1, s2, s3⟩ := hSw; go_simp; (try with_reducible rfl))
  try simp only [Act.put, List.setIfInBounds_toArray, List.set_cons_zero, List.set_cons_succ]
  refine takeD (i := 3) (d := some 11) (v := ?vT4) rfl rfl (by kernel_rfl) (by kernel_rfl) (by kernel_rfl) (fun _ _ _ h => h) (Or.inl ⟨by rfl, ?hyT4⟩) (by assumption) ?rstT4
  case hyT4 => (intro w hSw; (try dsimp only at hSw); obtain ⟨s0, s1, s2, s3⟩ := hSw; go_simp; (try with_reducible rfl))
  try simp only [Act.put, List.setIfInBounds_toArray, List.set_cons_zero, List.set_cons_succ]
  refine takeD (i := 4) (d := some 12) (v := ?vT5) rfl rfl (by kernel_rfl) (by kernel_rfl) (by kernel_rfl) (fun _ _ _ h => h) (Or.inl ⟨by rfl, ?hyT5⟩) (by assumption) ?rstT5
  case hyT5 => (intro w hSw; (try dsimp only at hSw); obtain ⟨s0, s1, s2, s3⟩ := hSw; go_simp; (try with_reducible rfl))
  try simp only [Act.put, List.setIfInBounds_toArray, List.set_cons_zero, List.set_cons_succ]
  refine takeD (i := 5) (d := some 13) (v := ?vT6) rfl rfl (by kernel_rfl) (by kernel_rfl) (by kernel_rfl) (fun _ _ _ h => h) (Or.inl ⟨by rfl, ?hyT6⟩) (by assumption) ?rstT6
  case hyT6 => (intro w hSw; (try dsimp only at hSw); obtain ⟨s0, s1, s2, s3⟩ := hSw; go_simp; (try with_reducible rfl))
  try simp only [Act.put, List.setIfInBounds_toArray, List.set_cons_zero, List.set_cons_succ]
  refine takeD (i := 6) (d := some 14) (v := ?vT7) rfl rfl (by kernel_rfl) (by kernel_rfl) (by kernel_rfl) (fun _ _ _ h => h) (Or.inl ⟨by rfl, ?hyT7⟩) (by assumption) ?rstT7
  case hyT7 => (intro w hSw; (try dsimp only at hSw); obtain ⟨s0, s1, s2, s3⟩ := hSw; go_simp; (try with_reducible rfl))
  try simp only [Act.put, List.setIfInBounds_toArray, List.set_cons_zero, List.set_cons_succ]
  refine wpAnyH_ready (rs := [7, 8]) (by kernel_rfl) (by simp) ?_
  refine AllReadyH.cons rfl (fun K hK => ?bA) (AllReadyH.cons rfl (fun K hK => ?bB) AllReadyH.nil)
  case bA =>
    go_simp
    refine (HC.out _ hBc.out).mono ?_
    rintro e w1 ⟨a', c', rfl, hQ⟩
    dsimp only
    replace hBc : Hid (Below W0.heap.size W0 w1) := hBc.out.trans (hQ.2.mono hBc.out.size)
    clear hHeld
    refine hK.out _ _ ?hS8 (fun hHeld => ?rest8)
    case hS8 => exact HKB.out _ hBc.out
    clear hK K
    try simp only [Act.put, List.setIfInBounds_toArray, List.set_cons_zero, List.set_cons_succ]
    refine wpAnyH_ready (rs := [8]) (by kernel_rfl) (by simp) ?_
    refine AllReadyH.cons rfl (fun K hK => ?_) AllReadyH.nil
    go_simp
    replace hBc : Hid (Below W0.heap.size W0 (w1.alloc (.cells #[.int .i64 0, .int .i64 0, .int .i64 0, .slice none 0 0, .bool false] 73))) := hBc.out.trans (((Below.refl _ _).alloc (Nat.le_refl _) _).mono hBc.out.size)
    clear hHeld
    refine hK.out _ _ ?hS9 (fun hHeld => ?rest9)
    case hS9 => exact HKB.out _ hBc.out
    clear hK K
    try simp only [Act.put, List.setIfInBounds_toArray, List.set_cons_zero, List.set_cons_succ]
    have y4 : (w1.alloc (.cells #[.int .i64 0, .int .i64 0, .int .i64 0, .slice none 0 0, .bool false] 73)).heap[w1.heap.size]? = some (.cells #[.int .i64 0, .int .i64 0, .int .i64 0, .slice none 0 0, .bool false] 73) := heap_alloc_new w1 _
    have HO : Hid (OwnF byU 1 5 (w1.alloc (.cells #[.int .i64 0, .int .i64 0, .int .i64 0, .slice none 0 0, .bool false] 73)) W.heap.size (.slice a' bl c') bs) := HOA.out _ _ _ _ _ hB00.out hQ.1 ((Below.refl _ _).alloc (Nat.le_refl _) _)
    obtain ⟨gf, hgf⟩ : ∃ gf, w1.heap.size = gf := ⟨_, rfl⟩
    have HG : Hid (W0.heap.size ≤ gf) := by rw [← hgf]; first | exact Nat.le_refl _ | exact hQ.2.size
    rw [hgf] at y4
    (try simp only [hgf])
    obtain ⟨Vb, hVb⟩ : ∃ Vb, (w1.alloc (.cells #[.int .i64 0, .int .i64 0, .int .i64 0, .slice none 0 0, .bool false] 73)) = Vb := ⟨_, rfl⟩
    rw [hVb] at y4 hBc HO ⊢
    obtain ⟨V, hV, hx5, hC5⟩ := set5 (A := []) (B := []) (o := 0) (W := Vb) (g := gf) (by simpa using y4) rfl (.int .i64 nx) (.int .i64 fr) (.int .i64 tt) (.slice a' bl c') (.bool sp)
    simp only [Nat.zero_add] at hV
    have hx5' : V.heap[gf]? = some (.cells #[.int .i64 nx, .int .i64 fr, .int .i64 tt, .slice a' bl c', .bool sp] 73) := by simpa using hx5
    obtain ⟨⟨t0, t1, t2, t3, t4⟩, z0, z1, z2, z3, z4⟩ := five_cells y4
    obtain ⟨v0, v1, v2, v3, v4⟩ := box5 hx5'
    obtain ⟨a, n, cap, a2, n2, cap2, W6, W7, W8, d3, d5, hap, d2, df, hW7, e2, ef, hW8, f0, HP8⟩ := HM.out gf Vb V a' c' hBc.out HG.out HO.out hC5 y4 hx5'
    replace hBc : Hid (Below W0.heap.size W0 V) := hBc.out.trans (hC5.below (fun k e => by subst e; exact HG.out) hBc.out.size)
    have hB9 := hBc.out.size
    clear y4 hgf hx5 hx5' hC5 HO hVb
    refine wpAnyH_ready (rs := [9]) (by kernel_rfl) (by simp) ?_
    refine AllReadyH.cons rfl (fun K hK => ?_) AllReadyH.nil
    go_simp
    clear hHeld
    refine hK.out _ _ ?hS11 (fun hHeld => ?rest11)
    case hS11 => exact HKB.out _ hBc.out
    clear hK K
    try simp only [Act.put, List.setIfInBounds_toArray, List.set_cons_zero, List.set_cons_succ]
    refine wpAnyH_done (by kernel_rfl) ?_ _
    go_wp2_with fail
    refine wp_region_any (by kernel_rfl) ?_
    show wpAny _ _ _ _ _ _ _ V.drew
    refine takeA (i := 0) (d := some 16) (v := ?vT12) rfl rfl (by kernel_rfl) (by kernel_rfl) (by kernel_rfl) (fun _ _ _ h => h) (Or.inl ⟨by rfl, ?hyT12⟩) ?rstT12
    case hyT12 => (intro w; go_simp; (try with_reducible rfl))
    try simp only [Act.put, List.setIfInBounds_toArray, List.set_cons_zero, List.set_cons_succ]
    refine takeA (i := 1) (d := some 17) (v := ?vT13) rfl rfl (by kernel_rfl) (by kernel_rfl) (by kernel_rfl) (fun _ _ _ h => h) (Or.inl ⟨by rfl, ?hyT13⟩) ?rstT13
    case hyT13 => (intro w; go_simp; (try with_reducible rfl))
    try simp only [Act.put, List.setIfInBounds_toArray, List.set_cons_zero, List.set_cons_succ]
    refine takeA (i := 2) (d := some 18) (v := ?vT14) rfl rfl (by kernel_rfl) (by kernel_rfl) (by kernel_rfl) (fun _ _ _ h => h) (Or.inl ⟨by rfl, ?hyT14⟩) ?rstT14
    case hyT14 => (intro w; go_simp; (try with_reducible rfl))
    try simp only [Act.put, List.setIfInBounds_toArray, List.set_cons_zero, List.set_cons_succ]
    refine takeA (i := 3) (d := some 19) (v := ?vT15) rfl rfl (by kernel_rfl) (by kernel_rfl) (by kernel_rfl) (fun _ _ _ h => h) (Or.inl ⟨by rfl, ?hyT15⟩) ?rstT15
    case hyT15 => (intro w; go_simp; (try with_reducible rfl))
    try simp only [Act.put, List.setIfInBounds_toArray, List.set_cons_zero, List.set_cons_succ]
    refine wpAny_ready (rs := [4, 5]) (by kernel_rfl) (by simp) (consS rfl (fun K hK => ?bA16) (consS rfl (fun K hK => ?bB16) AllReady.nil))
    case bA16 =>
      go_simp
      refine hK.out _ _ ?_
      clear hK K
      try simp only [Act.put, List.setIfInBounds_toArray, List.set_cons_zero, List.set_cons_succ]
      refine wpAny_ready (rs := [5]) (by kernel_rfl) (by simp) (consS rfl (fun K hK => ?_) AllReady.nil)
      go_simp
      refine hK.out _ _ ?_
      clear hK K
      try simp only [Act.put, List.setIfInBounds_toArray, List.set_cons_zero, List.set_cons_succ]
      refine wpAny_ready (rs := [6]) (by kernel_rfl) (by simp) (consS rfl (fun K hK => ?_) AllReady.nil)
      go_simp
      refine hK.out _ _ ?_
      clear hK K
      try simp only [Act.put, List.setIfInBounds_toArray, List.set_cons_zero, List.set_cons_succ]
      refine wpAny_ready (rs := [7]) (by kernel_rfl) (by simp) (consS rfl (fun K hK => ?_) AllReady.nil)
      rw [if_pos (by rfl)]
      refine wp_append_hr (.tmp 20) (.tmp 22) 52 (some 23) rfl rfl _ _ rfl rfl hap ?_
      refine hK.out _ _ ?_
      clear hK K
      try simp only [Act.put, List.setIfInBounds_toArray, List.set_cons_zero, List.set_cons_succ]
      refine takeA (i := 8) (d := some 24) (v := ?vT19) rfl rfl (by kernel_rfl) (by kernel_rfl) (by kernel_rfl) (fun _ _ _ h => h) (Or.inl ⟨by rfl, ?hyT19⟩) ?rstT19
      case hyT19 => (intro w; go_simp; (try with_reducible rfl))
      try simp only [Act.put, List.setIfInBounds_toArray, List.set_cons_zero, List.set_cons_succ]
      refine takeA (i := 9) (d := some 25) (v := ?vT20) rfl rfl (by kernel_rfl) (by kernel_rfl) (by kernel_rfl) (fun _ _ _ h => h) (Or.inl ⟨by rfl, ?hyT20⟩) ?rstT20
      case hyT20 => (intro w; go_simp; (try with_reducible rfl))
      try simp only [Act.put, List.setIfInBounds_toArray, List.set_cons_zero, List.set_cons_succ]
      refine wpAny_ready (rs := [10]) (by kernel_rfl) (by simp) (consS rfl (fun K hK => ?_) AllReady.nil)
      go_simp
      refine hK.out _ _ ?_
      clear hK K
      try simp only [Act.put, List.setIfInBounds_toArray, List.set_cons_zero, List.set_cons_succ]
      refine wpAny_done (by kernel_rfl) ?_ _
      go_wp2_with fail
      go_ret
      exact ⟨rfl, HP8.out⟩
    case bB16 =>
      go_simp
      refine hK.out _ _ ?_
      clear hK K
      try simp only [Act.put, List.setIfInBounds_toArray, List.set_cons_zero, List.set_cons_succ]
      refine wpAny_ready (rs := [4, 6]) (by kernel_rfl) (by simp) (consS rfl (fun K hK => ?bA21) (consS rfl (fun K hK => ?bB21) AllReady.nil))
      case bA21 =>
        go_simp
        refine hK.out _ _ ?_
        clear hK K
        try simp only [Act.put, List.setIfInBounds_toArray, List.set_cons_zero, List.set_cons_succ]
        refine wpAny_ready (rs := [6]) (by kernel_rfl) (by simp) (consS rfl (fun K hK => ?_) AllReady.nil)
        go_simp
        refine hK.out _ _ ?_
        clear hK K
        try simp only [Act.put, List.setIfInBounds_toArray, List.set_cons_zero, List.set_cons_succ]
        refine wpAny_ready (rs := [7]) (by kernel_rfl) (by simp) (consS rfl (fun K hK => ?_) AllReady.nil)
        rw [if_pos (by rfl)]
        refine wp_append_hr (.tmp 20) (.tmp 22) 52 (some 23) rfl rfl _ _ rfl rfl hap ?_
        refine hK.out _ _ ?_
        clear hK K
        try simp only [Act.put, List.setIfInBounds_toArray, List.set_cons_zero, List.set_cons_succ]
        refine takeA (i := 8) (d := some 24) (v := ?vT23) rfl rfl (by kernel_rfl) (by kernel_rfl) (by kernel_rfl) (fun _ _ _ h => h) (Or.inl ⟨by rfl, ?hyT23⟩) ?rstT23
        case hyT23 => (intro w; go_simp; (try with_reducible rfl))
        try simp only [Act.put, List.setIfInBounds_toArray, List.set_cons_zero, List.set_cons_succ]
        refine takeA (i := 9) (d := some 25) (v := ?vT24) rfl rfl (by kernel_rfl) (by kernel_rfl) (by kernel_rfl) (fun _ _ _ h => h) (Or.inl ⟨by rfl, ?hyT24⟩) ?rstT24
        case hyT24 => (intro w; go_simp; (try with_reducible rfl))
        try simp only [Act.put, List.setIfInBounds_toArray, List.set_cons_zero, List.set_cons_succ]
        refine wpAny_ready (rs := [10]) (by kernel_rfl) (by simp) (consS rfl (fun K hK => ?_) AllReady.nil)
        go_simp
        refine hK.out _ _ ?_
        clear hK K
        try simp only [Act.put, List.setIfInBounds_toArray, List.set_cons_zero, List.set_cons_succ]
        refine wpAny_done (by kernel_rfl) ?_ _
        go_wp2_with fail
        go_ret
        exact ⟨rfl, HP8.out⟩
      case bB21 =>
        go_simp
        refine hK.out _ _ ?_
        clear hK K
        try simp only [Act.put, List.setIfInBounds_toArray, List.set_cons_zero, List.set_cons_succ]
        refine wpAny_ready (rs := [4]) (by kernel_rfl) (by simp) (consS rfl (fun K hK => ?_) AllReady.nil)
        go_simp
        refine hK.out _ _ ?_
        clear hK K
        try simp only [Act.put, List.setIfInBounds_toArray, List.set_cons_zero, List.set_cons_succ]
        refine wpAny_ready (rs := [7]) (by kernel_rfl) (by simp) (consS rfl (fun K hK => ?_) AllReady.nil)
        rw [if_pos (by rfl)]
        refine wp_append_hr (.tmp 20) (.tmp 22) 52 (some 23) rfl rfl _ _ rfl rfl hap ?_
        refine hK.out _ _ ?_
        clear hK K
        try simp only [Act.put, List.setIfInBounds_toArray, List.set_cons_zero, List.set_cons_succ]
        refine takeA (i := 8) (d := some 24) (v := ?vT26) rfl rfl (by kernel_rfl) (by kernel_rfl) (by kernel_rfl) (fun _ _ _ h => h) (Or.inl ⟨by rfl, ?hyT26⟩) ?rstT26
        case hyT26 => (intro w; go_simp; (try with_reducible rfl))
        try simp only [Act.put, List.setIfInBounds_toArray, List.set_cons_zero, List.set_cons_succ]
        refine takeA (i := 9) (d := some 25) (v := ?vT27) rfl rfl (by kernel_rfl) (by kernel_rfl) (by kernel_rfl) (fun _ _ _ h => h) (Or.inl ⟨by rfl, ?hyT27⟩) ?rstT27
        case hyT27 => (intro w; go_simp; (try with_reducible rfl))
        try simp only [Act.put, List.setIfInBounds_toArray, List.set_cons_zero, List.set_cons_succ]
        refine wpAny_ready (rs := [10]) (by kernel_rfl) (by simp) (consS rfl (fun K hK => ?_) AllReady.nil)
        go_simp
        refine hK.out _ _ ?_
        clear hK K
        try simp only [Act.put, List.setIfInBounds_toArray, List.set_cons_zero, List.set_cons_succ]
        refine wpAny_done (by kernel_rfl) ?_ _
        go_wp2_with fail
        go_ret
        exact ⟨rfl, HP8.out⟩
  case bB =>
    go_simp
    replace hBc : Hid (Below W0.heap.size W0 (W0.drew.alloc (.cells #[.int .i64 0, .int .i64 0, .int .i64 0, .slice none 0 0, .bool false] 73))) := hB01.out
    clear hHeld
    refine hK.out _ _ ?hS28 (fun hHeld => ?rest28)
    case hS28 => exact HKB.out _ hBc.out
    clear hK K
    try simp only [Act.put, List.setIfInBounds_toArray, List.set_cons_zero, List.set_cons_succ]
    refine wpAnyH_ready (rs := [7]) (by kernel_rfl) (by simp) ?_
    refine AllReadyH.cons rfl (fun K hK => ?_) AllReadyH.nil
    go_simp
    refine (HC.out _ hBc.out).mono ?_
    rintro e w1 ⟨a', c', rfl, hQ⟩
    dsimp only
    replace hBc : Hid (Below W0.heap.size W0 w1) := hBc.out.trans (hQ.2.mono hBc.out.size)
    clear hHeld
    refine hK.out _ _ ?hS29 (fun hHeld => ?rest29)
    case hS29 => exact HKB.out _ hBc.out
    clear hK K
    try simp only [Act.put, List.setIfInBounds_toArray, List.set_cons_zero, List.set_cons_succ]
    have y4 : w1.heap[W0.heap.size]? = some (.cells #[.int .i64 0, .int .i64 0, .int .i64 0, .slice none 0 0, .bool false] 73) := (hQ.2.block W0.heap.size (by show W0.heap.size < (W0.drew.alloc _).heap.size; rw [World.size_alloc]; exact Nat.lt_succ_self _)).trans (heap_alloc_new W0.drew _)
    have HO : Hid (OwnF byU 1 5 w1 W.heap.size (.slice a' bl c') bs) := HOA.out _ _ _ _ _ hB01.out hQ.1 (Below.refl _ _)
    obtain ⟨gf, hgf⟩ : ∃ gf, W0.heap.size = gf := ⟨_, rfl⟩
    have HG : Hid (W0.heap.size ≤ gf) := by rw [← hgf]; first | exact Nat.le_refl _ | exact hQ.2.size
    rw [hgf] at y4
    (try simp only [hgf])
    obtain ⟨Vb, hVb⟩ : ∃ Vb, w1 = Vb := ⟨_, rfl⟩
    rw [hVb] at y4 hBc HO ⊢
    obtain ⟨V, hV, hx5, hC5⟩ := set5 (A := []) (B := []) (o := 0) (W := Vb) (g := gf) (by simpa using y4) rfl (.int .i64 nx) (.int .i64 fr) (.int .i64 tt) (.slice a' bl c') (.bool sp)
    simp only [Nat.zero_add] at hV
    have hx5' : V.heap[gf]? = some (.cells #[.int .i64 nx, .int .i64 fr, .int .i64 tt, .slice a' bl c', .bool sp] 73) := by simpa using hx5
    obtain ⟨⟨t0, t1, t2, t3, t4⟩, z0, z1, z2, z3, z4⟩ := five_cells y4
    obtain ⟨v0, v1, v2, v3, v4⟩ := box5 hx5'
    obtain ⟨a, n, cap, a2, n2, cap2, W6, W7, W8, d3, d5, hap, d2, df, hW7, e2, ef, hW8, f0, HP8⟩ := HM.out gf Vb V a' c' hBc.out HG.out HO.out hC5 y4 hx5'
    replace hBc : Hid (Below W0.heap.size W0 V) := hBc.out.trans (hC5.below (fun k e => by subst e; exact HG.out) hBc.out.size)
    have hB9 := hBc.out.size
    clear y4 hgf hx5 hx5' hC5 HO hVb
    refine wpAnyH_ready (rs := [9]) (by kernel_rfl) (by simp) ?_
    refine AllReadyH.cons rfl (fun K hK => ?_) AllReadyH.nil
    go_simp
    clear hHeld
    refine hK.out _ _ ?hS31 (fun hHeld => ?rest31)
    case hS31 => exact HKB.out _ hBc.out
    clear hK K
    try simp only [Act.put, List.setIfInBounds_toArray, List.set_cons_zero, List.set_cons_succ]
    refine wpAnyH_done (by kernel_rfl) ?_ _
    go_wp2_with fail
    refine wp_region_any (by kernel_rfl) ?_
    show wpAny _ _ _ _ _ _ _ V.drew
    refine takeA (i := 0) (d := some 16) (v := ?vT32) rfl rfl (by kernel_rfl) (by kernel_rfl) (by kernel_rfl) (fun _ _ _ h => h) (Or.inl ⟨by rfl, ?hyT32⟩) ?rstT32
    case hyT32 => (intro w; go_simp; (try with_reducible rfl))
    try simp only [Act.put, List.setIfInBounds_toArray, List.set_cons_zero, List.set_cons_succ]
    refine takeA (i := 1) (d := some 17) (v := ?vT33) rfl rfl (by kernel_rfl) (by kernel_rfl) (by kernel_rfl) (fun _ _ _ h => h) (Or.inl ⟨by rfl, ?hyT33⟩) ?rstT33
    case hyT33 => (intro w; go_simp; (try with_reducible rfl))
    try simp only [Act.put, List.setIfInBounds_toArray, List.set_cons_zero, List.set_cons_succ]
    refine takeA (i := 2) (d := some 18) (v := ?vT34) rfl rfl (by kernel_rfl) (by kernel_rfl) (by kernel_rfl) (fun _ _ _ h => h) (Or.inl ⟨by rfl, ?hyT34⟩) ?rstT34
    case hyT34 => (intro w; go_simp; (try with_reducible rfl))
    try simp only [Act.put, List.setIfInBounds_toArray, List.set_cons_zero, List.set_cons_succ]
    refine takeA (i := 3) (d := some 19) (v := ?vT35) rfl rfl (by kernel_rfl) (by kernel_rfl) (by kernel_rfl) (fun _ _ _ h => h) (Or.inl ⟨by rfl, ?hyT35⟩) ?rstT35
    case hyT35 => (intro w; go_simp; (try with_reducible rfl))
    try simp only [Act.put, List.setIfInBounds_toArray, List.set_cons_zero, List.set_cons_succ]
    refine wpAny_ready (rs := [4, 5]) (by kernel_rfl) (by simp) (consS rfl (fun K hK => ?bA36) (consS rfl (fun K hK => ?bB36) AllReady.nil))
    case bA36 =>
      go_simp
      refine hK.out _ _ ?_
      clear hK K
      try simp only [Act.put, List.setIfInBounds_toArray, List.set_cons_zero, List.set_cons_succ]
      refine wpAny_ready (rs := [5]) (by kernel_rfl) (by simp) (consS rfl (fun K hK => ?_) AllReady.nil)
      go_simp
      refine hK.out _ _ ?_
      clear hK K
      try simp only [Act.put, List.setIfInBounds_toArray, List.set_cons_zero, List.set_cons_succ]
      refine wpAny_ready (rs := [6]) (by kernel_rfl) (by simp) (consS rfl (fun K hK => ?_) AllReady.nil)
      go_simp
      refine hK.out _ _ ?_
      clear hK K
      try simp only [Act.put, List.setIfInBounds_toArray, List.set_cons_zero, List.set_cons_succ]
      refine wpAny_ready (rs := [7]) (by kernel_rfl) (by simp) (consS rfl (fun K hK => ?_) AllReady.nil)
      rw [if_pos (by rfl)]
      refine wp_append_hr (.tmp 20) (.tmp 22) 52 (some 23) rfl rfl _ _ rfl rfl hap ?_
      refine hK.out _ _ ?_
      clear hK K
      try simp only [Act.put, List.setIfInBounds_toArray, List.set_cons_zero, List.set_cons_succ]
      refine takeA (i := 8) (d := some 24) (v := ?vT39) rfl rfl (by kernel_rfl) (by kernel_rfl) (by kernel_rfl) (fun _ _ _ h => h) (Or.inl ⟨by rfl, ?hyT39⟩) ?rstT39
      case hyT39 => (intro w; go_simp; (try with_reducible rfl))
      try simp only [Act.put, List.setIfInBounds_toArray, List.set_cons_zero, List.set_cons_succ]
      refine takeA (i := 9) (d := some 25) (v := ?vT40) rfl rfl (by kernel_rfl) (by kernel_rfl) (by kernel_rfl) (fun _ _ _ h => h) (Or.inl ⟨by rfl, ?hyT40⟩) ?rstT40
      case hyT40 => (intro w; go_simp; (try with_reducible rfl))
      try simp only [Act.put, List.setIfInBounds_toArray, List.set_cons_zero, List.set_cons_succ]
      refine wpAny_ready (rs := [10]) (by kernel_rfl) (by simp) (consS rfl (fun K hK => ?_) AllReady.nil)
      go_simp
      refine hK.out _ _ ?_
      clear hK K
      try simp only [Act.put, List.setIfInBounds_toArray, List.set_cons_zero, List.set_cons_succ]
      refine wpAny_done (by kernel_rfl) ?_ _
      go_wp2_with fail
      go_ret
      exact ⟨rfl, HP8.out⟩
    case bB36 =>
      go_simp
      refine hK.out _ _ ?_
      clear hK K
      try simp only [Act.put, List.setIfInBounds_toArray, List.set_cons_zero, List.set_cons_succ]
      refine wpAny_ready (rs := [4, 6]) (by kernel_rfl) (by simp) (consS rfl (fun K hK => ?bA41) (consS rfl (fun K hK => ?bB41) AllReady.nil))
      case bA41 =>
        go_simp
        refine hK.out _ _ ?_
        clear hK K
        try simp only [Act.put, List.setIfInBounds_toArray, List.set_cons_zero, List.set_cons_succ]
        refine wpAny_ready (rs := [6]) (by kernel_rfl) (by simp) (consS rfl (fun K hK => ?_) AllReady.nil)
        go_simp
        refine hK.out _ _ ?_
        clear hK K
        try simp only [Act.put, List.setIfInBounds_toArray, List.set_cons_zero, List.set_cons_succ]
        refine wpAny_ready (rs := [7]) (by kernel_rfl) (by simp) (consS rfl (fun K hK => ?_) AllReady.nil)
        rw [if_pos (by rfl)]
        refine wp_append_hr (.tmp 20) (.tmp 22) 52 (some 23) rfl rfl _ _ rfl rfl hap ?_
        refine hK.out _ _ ?_
        clear hK K
        try simp only [Act.put, List.setIfInBounds_toArray, List.set_cons_zero, List.set_cons_succ]
        refine takeA (i := 8) (d := some 24) (v := ?vT43) rfl rfl (by kernel_rfl) (by kernel_rfl) (by kernel_rfl) (fun _ _ _ h => h) (Or.inl ⟨by rfl, ?hyT43⟩) ?rstT43
        case hyT43 => (intro w; go_simp; (try with_reducible rfl))
        try simp only [Act.put, List.setIfInBounds_toArray, List.set_cons_zero, List.set_cons_succ]
        refine takeA (i := 9) (d := some 25) (v := ?vT44) rfl rfl (by kernel_rfl) (by kernel_rfl) (by kernel_rfl) (fun _ _ _ h => h) (Or.inl ⟨by rfl, ?hyT44⟩) ?rstT44
        case hyT44 => (intro w; go_simp; (try with_reducible rfl))
        try simp only [Act.put, List.setIfInBounds_toArray, List.set_cons_zero, List.set_cons_succ]
        refine wpAny_ready (rs := [10]) (by kernel_rfl) (by simp) (consS rfl (fun K hK => ?_) AllReady.nil)
        go_simp
        refine hK.out _ _ ?_
        clear hK K
        try simp only [Act.put, List.setIfInBounds_toArray, List.set_cons_zero, List.set_cons_succ]
        refine wpAny_done (by kernel_rfl) ?_ _
        go_wp2_with fail
        go_ret
        exact ⟨rfl, HP8.out⟩
      case bB41 =>
        go_simp
        refine hK.out _ _ ?_
        clear hK K
        try simp only [Act.put, List.setIfInBounds_toArray, List.set_cons_zero, List.set_cons_succ]
        refine wpAny_ready (rs := [4]) (by kernel_rfl) (by simp) (consS rfl (fun K hK => ?_) AllReady.nil)
        go_simp
        refine hK.out _ _ ?_
        clear hK K
        try simp only [Act.put, List.setIfInBounds_toArray, List.set_cons_zero, List.set_cons_succ]
        refine wpAny_ready (rs := [7]) (by kernel_rfl) (by simp) (consS rfl (fun K hK => ?_) AllReady.nil)
        rw [if_pos (by rfl)]
        refine wp_append_hr (.tmp 20) (.tmp 22) 52 (some 23) rfl rfl _ _ rfl rfl hap ?_
        refine hK.out _ _ ?_
        clear hK K
        try simp only [Act.put, List.setIfInBounds_toArray, List.set_cons_zero, List.set_cons_succ]
        refine takeA (i := 8) (d := some 24) (v := ?vT46) rfl rfl (by kernel_rfl) (by kernel_rfl) (by kernel_rfl) (fun _ _ _ h => h) (Or.inl ⟨by rfl, ?hyT46⟩) ?rstT46
        case hyT46 => (intro w; go_simp; (try with_reducible rfl))
        try simp only [Act.put, List.setIfInBounds_toArray, List.set_cons_zero, List.set_cons_succ]
        refine takeA (i := 9) (d := some 25) (v := ?vT47) rfl rfl (by kernel_rfl) (by kernel_rfl) (by kernel_rfl) (fun _ _ _ h => h) (Or.inl ⟨by rfl, ?hyT47⟩) ?rstT47
        case hyT47 => (intro w; go_simp; (try with_reducible rfl))
        try simp only [Act.put, List.setIfInBounds_toArray, List.set_cons_zero, List.set_cons_succ]
        refine wpAny_ready (rs := [10]) (by kernel_rfl) (by simp) (consS rfl (fun K hK => ?_) AllReady.nil)
        go_simp
        refine hK.out _ _ ?_
        clear hK K
        try simp only [Act.put, List.setIfInBounds_toArray, List.set_cons_zero, List.set_cons_succ]
        refine wpAny_done (by kernel_rfl) ?_ _
        go_wp2_with fail
        go_ret
        exact ⟨rfl, HP8.out⟩
end Go.Proofs.Ytdmhajlhpieedaa
