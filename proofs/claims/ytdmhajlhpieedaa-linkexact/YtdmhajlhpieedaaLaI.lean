import Derived.Test.YtdmhajlhpieedaaLaH
/-! begin: a packet is in flight. -/
namespace Go.Proofs.Ytdmhajlhpieedaa
open Go.RowKit Go.Lib Go.Shelf
set_option maxRecDepth 100000

def begS (S : Lk) (f : Fg) : Lk := { S with next := S.next + 1, fl := S.fl ++ [f] }
/-- What begin leaves. -/
def BegP (W : World) (q : Nat) (S : Lk) (rv : Value) (xs : List X) (f : Fg) (W' : World) : Prop := ∃ rv' x, x.fg = f ∧ LinkAt W' q (begS S f) rv' (xs ++ [x]) ∧ Chg (fun g => g = q ∨ rv.ownBlock = some g) W W' ∧ (∀ g, rv'.ownBlock = some g → rv.ownBlock = some g ∨ W.heap.size ≤ g) ∧ ∀ g, x.v.ownBlock = some g → W.heap.size ≤ g
theorem begin_mem {W W3 W6 W7 W8 : World} {q : Nat} {S : Lk} {rv rv' : Value} {xs : List X} {fr tt : Int} {g m : Nat} {bs : List UInt8} {sp : Bool} (h : LinkAt W q S rv xs) (hb3 : Below W.heap.size W W3)
    (ho : OwnF byU 1 5 W3 0 (.slice (some ⟨g, 0, none⟩) bs.length m) bs) (hg : W.heap.size ≤ g) (hap : OffF fv 5 73 W6 rv' (xs ++ [⟨S.next, fr, tt, some ⟨g, 0, none⟩, m, bs, sp⟩])) (hC6 : Chg (fun g => rv.ownBlock = some g) W3 W6) (hrv : ∀ g, rv'.ownBlock = some g → rv.ownBlock = some g ∨ W3.heap.size ≤ g)
    (h7 : W6.setCell ⟨q, 3, none⟩ rv' = W7) (h8 : W7.setCell ⟨q, 2, none⟩ (.int .i64 ((S.next : Int) + 1)) = W8) : BegP W q S rv xs ⟨S.next, fr, tt, bs, sp⟩ W8 := by
  have hs := hb3.size
  have hq := h.qlt
  have hbx6 : W6.heap[q]? = some (.cells #[.int .i64 (S.nodes : Int), .int .i64 (S.most : Int), .int .i64 (S.next : Int), rv] 68) := hC6.block ((hb3.block q hq).trans h.box) (fun e => h.q_ne_r e rfl)
  have hbx7 := heap_setCell_cells hbx6 3 rv'
  rw [h7] at hbx7
  have hbx8 := heap_setCell_cells hbx7 2 (.int .i64 ((S.next : Int) + 1))
  rw [h8] at hbx8
  have hC8 : Chg (fun k => k = q) W6 W8 := by
    rw [← h8, ← h7]
    exact (Chg.set (D := fun k => k = q) (q := q) 3 _ _ rfl).trans (Chg.set (D := fun k => k = q) (q := q) 2 _ _ rfl)
  have hC38 : Chg (fun k => k = q ∨ rv.ownBlock = some k) W3 W8 := (hC6.mono (fun k _ e => .inr e)).trans (hC8.mono (fun k _ e => .inl e))
  have hC : Chg (fun k => k = q ∨ rv.ownBlock = some k) W W8 := (Chg.of_below hb3).trans hC38
  have hblk : ∀ k, rv.ownBlock = some k → k < W.heap.size := fun k hk => h.row.lt hk
  refine ⟨rv', ⟨S.next, fr, tt, some ⟨g, 0, none⟩, m, bs, sp⟩, rfl, ⟨?_, hap.chg hC8 (fun k hk e => ?_), fun y hy => ?_, ?_, ?_⟩, hC, fun k hk => ?_, fun k hk => ?_⟩
  · rw [hbx8]; simp [begS]
  · subst e
    rcases hrv k hk with h1 | h1
    · exact h.q_ne_r h1 rfl
    · omega
  · rcases List.mem_append.1 hy with hy | hy
    · exact (h.own y hy).chg hC (fun k hk e => by
        rcases e with rfl | e
        · exact h.q_ne_g hy hk rfl
        · exact h.r_ne_g e hy hk rfl)
    · simp only [List.mem_singleton] at hy
      subst hy
      refine OwnF.chg ho hC38 (fun k hk e => ?_)
      simp [X.v, Value.ownBlock] at hk
      subst hk
      rcases e with e | e
      · omega
      · have := hblk _ e; omega
  · rw [List.pairwise_append]
    refine ⟨h.gs, List.pairwise_singleton _ _, fun y hy z hz k hk e => ?_⟩
    simp only [List.mem_singleton] at hz
    subst hz
    simp [X.v, Value.ownBlock] at e
    have := (h.own y hy).lt hk
    omega
  · simp [begS, h.fl, X.fg]
  · rcases hrv k hk with h1 | h1
    · exact .inl h1
    · exact .inr (by omega)
  · simp [X.v, Value.ownBlock] at hk
    omega
set_option maxHeartbeats 4000000 in
theorem begin_any {W : World} {q : Nat} {S : Lk} {rv : Value} {xs : List X} (h : LinkAt W q S rv xs) (hO : S.Ok) (hl : xs.length + 1 ≤ 1048576) (fr tt : Int) {b : Option Addr} {m c : Nat} {bs : List UInt8} (hb : Rw byU 1 W b m c bs) (hm : m ≤ 281474976710656) (sp : Bool) :
    Calls Try.prog 27 #[.pointer (some ⟨q, 0, none⟩), .agg #[.int .i64 fr, .int .i64 tt, .slice b m c], .bool sp] W fun e W' => e = .returned (.int .i64 (S.next : Int)) ∧ BegP W q S rv xs ⟨S.next, fr, tt, bs, sp⟩ W' := by
  have hnx := hO.next
  have hbl := hb.len
  obtain ⟨W0, hW0⟩ : ∃ W0, W.alloc (.cells #[.int .i64 fr, .int .i64 tt, .slice b m c] 36) = W0 := ⟨_, rfl⟩
  have hB0 : Below W.heap.size W W0 := by rw [← hW0]; exact (Below.refl _ _).alloc (Nat.le_refl _) _
  have hs0 : W0.heap.size = W.heap.size + 1 := by rw [← hW0]; exact World.size_alloc ..
  have hx0 : W0.heap[W.heap.size]? = some (.cells #[.int .i64 fr, .int .i64 tt, .slice b m c] 36) := by rw [← hW0]; exact heap_alloc_new W _
  obtain ⟨W1, W2, hmk, hB1, hcp, how, hB2, hs2⟩ := make_copy W0 (hb.below hB0) hm
  obtain ⟨g, hg⟩ : ∃ g, W0.heap.size = g := ⟨_, rfl⟩
  rw [hg] at hmk hcp how
  have hx1 := (hB1.block W.heap.size (by omega)).trans hx0
  have hx2 := (hB2.block W.heap.size (by omega)).trans hx0
  obtain ⟨W3, hW3⟩ : ∃ W3, W2.setCell ⟨W.heap.size, 2, none⟩ (.slice (some ⟨g, 0, none⟩) m m) = W3 := ⟨_, rfl⟩
  have hx3 := heap_setCell_cells hx2 2 (.slice (some ⟨g, 0, none⟩) m m)
  rw [hW3] at hx3
  have hC3 : Chg (fun k => k = W.heap.size) W2 W3 := by rw [← hW3]; exact Chg.set (D := fun k => k = W.heap.size) (q := W.heap.size) 2 _ _ rfl
  have hB3 : Below W.heap.size W W3 := hB0.trans ((hB2.mono (by omega)).trans (hC3.below (fun k e => by omega) (by have := hB2.size; omega)))
  have ho3 : OwnF byU 1 5 W3 0 (.slice (some ⟨g, 0, none⟩) m m) bs := (how.chg hC3 (fun k hk e => by simp [Value.ownBlock] at hk; omega)).mono (Nat.zero_le _)
  have hL3 := h.below hB3
  obtain ⟨rv', W6, hap, hoff, hC6, hrv⟩ := offF_append kindV layV (W := W3.drew) (hL3.row.chg (Chg.refl (fun _ => False) W3).drew (fun _ _ h => h)) ⟨S.next, fr, tt, some ⟨g, 0, none⟩, m, bs, sp⟩ #[.int .i64 (S.next : Int), .int .i64 fr, .int .i64 tt, .slice (some ⟨g, 0, none⟩) m m, .bool sp] (by simp [fv, hbl]) 73 (by omega) (by omega) 52
  have hq := h.qlt
  have hq3 := (hB3.block q hq).trans h.box
  have hs3 : W3.heap.size = W2.heap.size := by rw [← hW3]; simp
  have hC6' : Chg (fun g => rv.ownBlock = some g) W3 W6 := ((Chg.refl _ W3).drew).trans hC6
  have hbx6 : W6.heap[q]? = some (.cells #[.int .i64 (S.nodes : Int), .int .i64 (S.most : Int), .int .i64 (S.next : Int), rv] 68) := hC6'.block hq3 (fun e => h.q_ne_r e rfl)
  obtain ⟨W7, hW7⟩ : ∃ W7, W6.setCell ⟨q, 3, none⟩ rv' = W7 := ⟨_, rfl⟩
  have hbx7 := heap_setCell_cells hbx6 3 rv'
  rw [hW7] at hbx7
  have hP : ∀ W8, W7.setCell ⟨q, 2, none⟩ (.int .i64 ((S.next : Int) + 1)) = W8 → BegP W q S rv xs ⟨S.next, fr, tt, bs, sp⟩ W8 := fun W8 h8 => begin_mem h hB3 (by rw [hbl]; exact ho3) (by omega) hoff hC6' (fun k hk => hrv k hk) hW7 h8
  have HP : Hid (∀ W8, W7.setCell ⟨q, 2, none⟩ (.int .i64 ((S.next : Int) + 1)) = W8 → BegP W q S rv xs ⟨S.next, fr, tt, bs, sp⟩ W8) := hP
  have p0 := (box3 hx0).2.2
  have p1 := (box3 hx1).2.2
  have p2 := (box3 hx2).2.2
  have pf := Lib.frozen_of_heap hx2 2
  have hx3' : W3.heap[W.heap.size]? = some (.cells #[.int .i64 fr, .int .i64 tt, .slice (some ⟨g, 0, none⟩) m m] 36) := hx3
  obtain ⟨r0, r1, r2⟩ := box3 hx3'
  obtain ⟨_, _, q2, q3⟩ := box4 hq3
  obtain ⟨_, _, s2, s3⟩ := box4 hbx6
  have sf := Lib.frozen_of_heap hbx6 3
  have hbx7' : W7.heap[q]? = some (.cells #[.int .i64 (S.nodes : Int), .int .i64 (S.most : Int), .int .i64 (S.next : Int), rv'] 68) := hbx7
  obtain ⟨_, _, t2, t3⟩ := box4 hbx7'
  have tf := Lib.frozen_of_heap hbx7' 2
  obtain ⟨a, cap, erv, _, _⟩ := h.row.shape
  obtain ⟨a', cap', erv', _, _⟩ := hoff.shape
  obtain ⟨nx, hnx'⟩ : ∃ nx : Int, (S.next : Int) = nx := ⟨_, rfl⟩
  have e1 : IntKind.i64.wrap (nx + 1) = nx + 1 := IntWalk.i64_in _ (by omega)
  rw [hnx'] at HP q2 s2 t2 hap ⊢
  obtain ⟨n', hn'⟩ : ∃ n', (xs ++ [(⟨S.next, fr, tt, some ⟨g, 0, none⟩, m, bs, sp⟩ : X)]).length = n' := ⟨_, rfl⟩
  rw [hn'] at erv'
  obtain ⟨n, hn⟩ : ∃ n, xs.length = n := ⟨_, rfl⟩
  rw [hn] at erv
  rw [erv] at q3 s3 hap
  rw [erv'] at hap hW7 t3
  have hap' : (Builtin.append_ #[52, 52] 52 #[.slice a n cap, .slice (some ⟨W3.heap.size, 0, none⟩) 1 1]).run Try.prog (W3.drew.alloc (.cells #[.int .i64 nx, .int .i64 fr, .int .i64 tt, .slice (some ⟨g, 0, none⟩) m m, .bool sp] 73)) = .ok (.slice a' n' cap') W6 := hap
  have hap := hap'
  have q5 : (W3.alloc (.cells #[.int .i64 nx, .int .i64 fr, .int .i64 tt, .slice (some ⟨g, 0, none⟩) m m, .bool sp] 73)).cell? ⟨q, 3, none⟩ = some (.slice a n cap) := (((Below.refl W3.heap.size W3).alloc (Nat.le_refl _) _).cell (p := ⟨q, 3, none⟩) (Nat.lt_of_lt_of_le hq hB3.size)).trans q3
  clear hap' h hO hl hb hm hnx hbl hB0 hs0 hx0 hB1 how hB2 hs2 hg hx1 hx2 hx3 hC3 hB3 ho3 hL3 hoff hC6 hrv hq hq3 hs3 hC6' hbx6 hbx7 hP hx3' hbx7' erv erv' hn' hn
  go_enter Try.func27, Try.ntmps27
  go_wp2_with fail
  refine wp_region_any (by kernel_rfl) ?_
  show wpAny _ _ _ _ _ _ _ W3.drew
  refine takeA (i := 0) (d := some 23) (v := ?vT1) rfl rfl (by kernel_rfl) (by kernel_rfl) (by kernel_rfl) (fun _ _ _ h => h) (Or.inl ⟨by rfl, ?hyT1⟩) ?rstT1
  case hyT1 => (intro w; go_simp; (try with_reducible rfl))
  try simp only [Act.put, List.setIfInBounds_toArray, List.set_cons_zero, List.set_cons_succ]
  refine takeA (i := 1) (d := some 24) (v := ?vT2) rfl rfl (by kernel_rfl) (by kernel_rfl) (by kernel_rfl) (fun _ _ _ h => h) (Or.inl ⟨by rfl, ?hyT2⟩) ?rstT2
  case hyT2 => (intro w; go_simp; (try with_reducible rfl))
  try simp only [Act.put, List.setIfInBounds_toArray, List.set_cons_zero, List.set_cons_succ]
  refine takeA (i := 2) (d := some 25) (v := ?vT3) rfl rfl (by kernel_rfl) (by kernel_rfl) (by kernel_rfl) (fun _ _ _ h => h) (Or.inl ⟨by rfl, ?hyT3⟩) ?rstT3
  case hyT3 => (intro w; go_simp; (try with_reducible rfl))
  try simp only [Act.put, List.setIfInBounds_toArray, List.set_cons_zero, List.set_cons_succ]
  refine takeA (i := 3) (d := some 26) (v := ?vT4) rfl rfl (by kernel_rfl) (by kernel_rfl) (by kernel_rfl) (fun _ _ _ h => h) (Or.inl ⟨by rfl, ?hyT4⟩) ?rstT4
  case hyT4 => (intro w; go_simp; (try with_reducible rfl))
  try simp only [Act.put, List.setIfInBounds_toArray, List.set_cons_zero, List.set_cons_succ]
  refine takeA (i := 5) (d := some 28) (v := ?vT5) rfl rfl (by kernel_rfl) (by kernel_rfl) (by kernel_rfl) (fun _ _ _ h => h) (Or.inl ⟨by rfl, ?hyT5⟩) ?rstT5
  case hyT5 => (intro w; go_simp; (try with_reducible rfl))
  try simp only [Act.put, List.setIfInBounds_toArray, List.set_cons_zero, List.set_cons_succ]
  refine takeA (i := 7) (d := some 30) (v := ?vT6) rfl rfl (by kernel_rfl) (by kernel_rfl) (by kernel_rfl) (fun _ _ _ h => h) (Or.inl ⟨by rfl, ?hyT6⟩) ?rstT6
  case hyT6 => (intro w; go_simp; (try with_reducible rfl))
  try simp only [Act.put, List.setIfInBounds_toArray, List.set_cons_zero, List.set_cons_succ]
  refine wpAny_ready (rs := [4, 6]) (by kernel_rfl) (by simp) (consS rfl (fun K hK => ?bA16) (consS rfl (fun K hK => ?bB16) AllReady.nil))
  case bA16 =>
    go_simp
    refine hK.out _ _ ?_
    clear hK K
    try simp only [Act.put, List.setIfInBounds_toArray, List.set_cons_zero, List.set_cons_succ]
    refine wpAny_ready (rs := [6]) (by kernel_rfl) (by simp) (consS rfl (fun K hK => ?_) AllReady.nil)
    go_simp
    refine hK.out _ _ ?_
    clear hK K
    try simp only [Act.put, List.setIfInBounds_toArray, List.set_cons_zero, List.set_cons_succ]
    refine takeA (i := 8) (d := some 31) (v := ?vT7) rfl rfl (by kernel_rfl) (by kernel_rfl) (by kernel_rfl) (fun _ _ _ h => h) (Or.inl ⟨by rfl, ?hyT7⟩) ?rstT7
    case hyT7 => (intro w; go_simp; (try with_reducible rfl))
    try simp only [Act.put, List.setIfInBounds_toArray, List.set_cons_zero, List.set_cons_succ]
    refine wpAny_ready (rs := [9]) (by kernel_rfl) (by simp) (consS rfl (fun K hK => ?_) AllReady.nil)
    go_simp
    refine hK.out _ _ ?_
    clear hK K
    try simp only [Act.put, List.setIfInBounds_toArray, List.set_cons_zero, List.set_cons_succ]
    refine wpAny_ready (rs := [10]) (by kernel_rfl) (by simp) (consS rfl (fun K hK => ?_) AllReady.nil)
    rw [if_pos (by rfl)]
    refine wp_append_hr (.tmp 27) (.tmp 32) 52 (some 33) rfl rfl _ _ rfl rfl hap ?_
    refine hK.out _ _ ?_
    clear hK K
    try simp only [Act.put, List.setIfInBounds_toArray, List.set_cons_zero, List.set_cons_succ]
    refine takeA (i := 11) (d := some 34) (v := ?vT8) rfl rfl (by kernel_rfl) (by kernel_rfl) (by kernel_rfl) (fun _ _ _ h => h) (Or.inl ⟨by rfl, ?hyT8⟩) ?rstT8
    case hyT8 => (intro w; go_simp; (try with_reducible rfl))
    try simp only [Act.put, List.setIfInBounds_toArray, List.set_cons_zero, List.set_cons_succ]
    refine takeA (i := 12) (d := some 35) (v := ?vT9) rfl rfl (by kernel_rfl) (by kernel_rfl) (by kernel_rfl) (fun _ _ _ h => h) (Or.inl ⟨by rfl, ?hyT9⟩) ?rstT9
    case hyT9 => (intro w; go_simp; (try with_reducible rfl))
    try simp only [Act.put, List.setIfInBounds_toArray, List.set_cons_zero, List.set_cons_succ]
    refine wpAny_ready (rs := [13]) (by kernel_rfl) (by simp) (consS rfl (fun K hK => ?_) AllReady.nil)
    go_simp
    refine hK.out _ _ ?_
    clear hK K
    try simp only [Act.put, List.setIfInBounds_toArray, List.set_cons_zero, List.set_cons_succ]
    refine wpAny_done (by kernel_rfl) ?_ _
    go_wp2_with fail
    go_ret
    exact ⟨rfl, HP.out _ rfl⟩
  case bB16 =>
    go_simp
    refine hK.out _ _ ?_
    clear hK K
    try simp only [Act.put, List.setIfInBounds_toArray, List.set_cons_zero, List.set_cons_succ]
    refine takeA (i := 8) (d := some 31) (v := ?vT10) rfl rfl (by kernel_rfl) (by kernel_rfl) (by kernel_rfl) (fun _ _ _ h => h) (Or.inl ⟨by rfl, ?hyT10⟩) ?rstT10
    case hyT10 => (intro w; go_simp; (try with_reducible rfl))
    try simp only [Act.put, List.setIfInBounds_toArray, List.set_cons_zero, List.set_cons_succ]
    refine wpAny_ready (rs := [4, 9]) (by kernel_rfl) (by simp) (consS rfl (fun K hK => ?bA15) (consS rfl (fun K hK => ?bB15) AllReady.nil))
    case bA15 =>
      go_simp
      refine hK.out _ _ ?_
      clear hK K
      try simp only [Act.put, List.setIfInBounds_toArray, List.set_cons_zero, List.set_cons_succ]
      refine wpAny_ready (rs := [9]) (by kernel_rfl) (by simp) (consS rfl (fun K hK => ?_) AllReady.nil)
      go_simp
      refine hK.out _ _ ?_
      clear hK K
      try simp only [Act.put, List.setIfInBounds_toArray, List.set_cons_zero, List.set_cons_succ]
      refine wpAny_ready (rs := [10]) (by kernel_rfl) (by simp) (consS rfl (fun K hK => ?_) AllReady.nil)
      rw [if_pos (by rfl)]
      refine wp_append_hr (.tmp 27) (.tmp 32) 52 (some 33) rfl rfl _ _ rfl rfl hap ?_
      refine hK.out _ _ ?_
      clear hK K
      try simp only [Act.put, List.setIfInBounds_toArray, List.set_cons_zero, List.set_cons_succ]
      refine takeA (i := 11) (d := some 34) (v := ?vT11) rfl rfl (by kernel_rfl) (by kernel_rfl) (by kernel_rfl) (fun _ _ _ h => h) (Or.inl ⟨by rfl, ?hyT11⟩) ?rstT11
      case hyT11 => (intro w; go_simp; (try with_reducible rfl))
      try simp only [Act.put, List.setIfInBounds_toArray, List.set_cons_zero, List.set_cons_succ]
      refine takeA (i := 12) (d := some 35) (v := ?vT12) rfl rfl (by kernel_rfl) (by kernel_rfl) (by kernel_rfl) (fun _ _ _ h => h) (Or.inl ⟨by rfl, ?hyT12⟩) ?rstT12
      case hyT12 => (intro w; go_simp; (try with_reducible rfl))
      try simp only [Act.put, List.setIfInBounds_toArray, List.set_cons_zero, List.set_cons_succ]
      refine wpAny_ready (rs := [13]) (by kernel_rfl) (by simp) (consS rfl (fun K hK => ?_) AllReady.nil)
      go_simp
      refine hK.out _ _ ?_
      clear hK K
      try simp only [Act.put, List.setIfInBounds_toArray, List.set_cons_zero, List.set_cons_succ]
      refine wpAny_done (by kernel_rfl) ?_ _
      go_wp2_with fail
      go_ret
      exact ⟨rfl, HP.out _ rfl⟩
    case bB15 =>
      go_simp
      refine hK.out _ _ ?_
      clear hK K
      try simp only [Act.put, List.setIfInBounds_toArray, List.set_cons_zero, List.set_cons_succ]
      refine wpAny_ready (rs := [4]) (by kernel_rfl) (by simp) (consS rfl (fun K hK => ?_) AllReady.nil)
      go_simp
      refine hK.out _ _ ?_
      clear hK K
      try simp only [Act.put, List.setIfInBounds_toArray, List.set_cons_zero, List.set_cons_succ]
      refine wpAny_ready (rs := [10]) (by kernel_rfl) (by simp) (consS rfl (fun K hK => ?_) AllReady.nil)
      rw [if_pos (by rfl)]
      refine wp_append_hr (.tmp 27) (.tmp 32) 52 (some 33) rfl rfl _ _ rfl rfl hap ?_
      refine hK.out _ _ ?_
      clear hK K
      try simp only [Act.put, List.setIfInBounds_toArray, List.set_cons_zero, List.set_cons_succ]
      refine takeA (i := 11) (d := some 34) (v := ?vT13) rfl rfl (by kernel_rfl) (by kernel_rfl) (by kernel_rfl) (fun _ _ _ h => h) (Or.inl ⟨by rfl, ?hyT13⟩) ?rstT13
      case hyT13 => (intro w; go_simp; (try with_reducible rfl))
      try simp only [Act.put, List.setIfInBounds_toArray, List.set_cons_zero, List.set_cons_succ]
      refine takeA (i := 12) (d := some 35) (v := ?vT14) rfl rfl (by kernel_rfl) (by kernel_rfl) (by kernel_rfl) (fun _ _ _ h => h) (Or.inl ⟨by rfl, ?hyT14⟩) ?rstT14
      case hyT14 => (intro w; go_simp; (try with_reducible rfl))
      try simp only [Act.put, List.setIfInBounds_toArray, List.set_cons_zero, List.set_cons_succ]
      refine wpAny_ready (rs := [13]) (by kernel_rfl) (by simp) (consS rfl (fun K hK => ?_) AllReady.nil)
      go_simp
      refine hK.out _ _ ?_
      clear hK K
      try simp only [Act.put, List.setIfInBounds_toArray, List.set_cons_zero, List.set_cons_succ]
      refine wpAny_done (by kernel_rfl) ?_ _
      go_wp2_with fail
      go_ret
      exact ⟨rfl, HP.out _ rfl⟩
end Go.Proofs.Ytdmhajlhpieedaa
