import Derived.Test.YtelcjhflopgojaaDoorMkI
import Derived.Deep.Cut
/-! makeRoom: all marks are moved, in whatever order the map is gone through. -/
namespace Go.Proofs.YtelcjhflopgojaaDoor
open Go.RowKit Go.Lib
set_option maxRecDepth 100000

theorem below_alloc0 (w : World) (o : Obj) : Below w.heap.size w (w.alloc o) := (Below.refl _ _).alloc (Nat.le_refl _) _
/-- Where an insert of n cells at a place brings a mark. -/
def mvX (a n : Nat) (x : X) : X := { x with lo := if a ≤ x.lo then x.lo + n else x.lo, hi := if a < x.hi then x.hi + n else x.hi }
def mvM (a n : Nat) (m : Mk) : Mk := ⟨m.nm, if a ≤ m.lo then m.lo + n else m.lo, if a < m.hi then m.hi + n else m.hi⟩
/-- Those that were met are moved. -/
def mvD (a n : Nat) (zs : List X) (x : X) : X := if x.born ∈ zs.map (·.born) then mvX a n x else x
theorem mvD_same (a n : Nat) (zs : List X) (x : X) : (mvD a n zs x).born = x.born ∧ (mvD a n zs x).nm = x.nm ∧ (mvD a n zs x).q = x.q := by
  unfold mvD
  split <;> exact ⟨rfl, rfl, rfl⟩
theorem mvD_mkE (a n : Nat) (zs : List X) (xs : List X) : (xs.map (mvD a n zs)).map mkE = xs.map mkE := by
  rw [List.map_map]
  refine List.map_congr_left fun x _ => ?_
  obtain ⟨h1, h2, h3⟩ := mvD_same a n zs x
  simp only [Function.comp_apply, mkE, h1, h2, h3]
theorem mvD_map {β : Type} {g : X → β} (a n : Nat) (zs : List X) (xs : List X) (hg : ∀ x, g (mvD a n zs x) = g x) : (xs.map (mvD a n zs)).map g = xs.map g := by
  rw [List.map_map]
  exact List.map_congr_left fun x _ => hg x
theorem MapAt.moved {W : World} {b ck : Nat} {xs : List X} (h : MapAt W b xs ck) (a n : Nat) (zs : List X) : MapAt W b (xs.map (mvD a n zs)) ck := by
  refine ⟨by rw [mvD_mkE]; exact h.heap, fun x hx => ?_, ?_, ?_⟩
  · obtain ⟨y, hy, rfl⟩ := List.mem_map.1 hx
    rw [(mvD_same a n zs y).1]
    exact h.lt y hy
  · rw [mvD_map a n zs xs (fun x => (mvD_same a n zs x).1)]; exact h.born
  · rw [mvD_map a n zs xs (fun x => (mvD_same a n zs x).2.1)]; exact h.nm
theorem MapAt.back {W : World} {b ck : Nat} {xs : List X} {a n : Nat} {zs : List X} (h : MapAt W b (xs.map (mvD a n zs)) ck) : MapAt W b xs ck := by
  refine ⟨by have := h.heap; rw [mvD_mkE] at this; exact this, fun x hx => ?_, ?_, ?_⟩
  · have := h.lt _ (List.mem_map.2 ⟨x, hx, rfl⟩)
    rw [(mvD_same a n zs x).1] at this
    exact this
  · have := h.born; rw [mvD_map a n zs xs (fun x => (mvD_same a n zs x).1)] at this; exact this
  · have := h.nm; rw [mvD_map a n zs xs (fun x => (mvD_same a n zs x).2.1)] at this; exact this
theorem nodup_inj {β : Type} {f : X → β} {xs : List X} (hx : (xs.map f).Nodup) {x y : X} (h1 : x ∈ xs) (h2 : y ∈ xs) (e : f x = f y) : x = y := by
  induction xs with
  | nil => cases h1
  | cons z t ih =>
    rw [List.map_cons, List.nodup_cons] at hx
    rcases List.mem_cons.1 h1 with h1 | h1
    · rcases List.mem_cons.1 h2 with h2 | h2
      · rw [h1, h2]
      · exact absurd (List.mem_map.2 ⟨y, h2, by rw [← e, h1]⟩) hx.1
    · rcases List.mem_cons.1 h2 with h2 | h2
      · exact absurd (List.mem_map.2 ⟨x, h1, by rw [e, h2]⟩) hx.1
      · exact ih hx.2 h1 h2
/-- A mark more is moved. -/
theorem BookAt.move {W W' : World} {p b t ck : Nat} {xs : List X} {a n : Nat} {zs : List X} {x : X} (h : BookAt W p b t (xs.map (mvD a n zs)) ck) (hx : x ∈ xs) (hnew : x.born ∉ zs.map (·.born)) (hC : Chg (fun g => g = x.q) W W') (hb : W'.heap[x.q]? = some (.cells #[.string ⟨x.nm.toArray⟩, .int .i64 ((mvX a n x).lo : Int), .int .i64 ((mvX a n x).hi : Int)] 29)) : BookAt W' p b t (xs.map (mvD a n (zs ++ [x]))) ck := by
  have hin : mvD a n zs x ∈ xs.map (mvD a n zs) := List.mem_map.2 ⟨x, hx, rfl⟩
  have hqx := (mvD_same a n zs x).2.2
  have hbk := h.map.back
  have hqs : (xs.map (·.q)).Nodup := by have := h.qs; rw [mvD_map a n zs xs (fun x => (mvD_same a n zs x).2.2)] at this; exact this
  refine ⟨hC.block h.box (by rw [← hqx]; exact h.p_ne_q hin), (hbk.moved a n (zs ++ [x])).chg hC (by rw [← hqx]; exact h.b_ne_q hin), fun y hy => ?_, by rw [mvD_map a n (zs ++ [x]) xs (fun y => (mvD_same a n (zs ++ [x]) y).2.2)]; exact hqs⟩
  obtain ⟨y0, hy0, rfl⟩ := List.mem_map.1 hy
  by_cases e : y0.born = x.born
  · obtain rfl := nodup_inj hbk.born hy0 hx e
    have e1 : mvD a n (zs ++ [y0]) y0 = mvX a n y0 := by
      unfold mvD
      rw [if_pos (by simp)]
    rw [e1]
    exact ⟨hb⟩
  · have e1 : mvD a n (zs ++ [x]) y0 = mvD a n zs y0 := by
      unfold mvD
      by_cases h1 : y0.born ∈ zs.map (·.born)
      · rw [if_pos h1, if_pos (by rw [List.map_append]; exact List.mem_append.2 (.inl h1))]
      · rw [if_neg h1, if_neg (by rw [List.map_append]; intro h2; rcases List.mem_append.1 h2 with h2 | h2; exact h1 h2; simp at h2; exact e h2)]
    rw [e1]
    refine (h.mark _ (List.mem_map.2 ⟨y0, hy0, rfl⟩)).chg hC (fun e2 => ?_)
    rw [(mvD_same a n zs y0).2.2] at e2
    exact e (by rw [nodup_inj hqs hy0 hx e2])
theorem moved_all {a n : Nat} {xs zs : List X} (h : ∀ x ∈ xs, x.born ∈ zs.map (·.born)) : xs.map (mvD a n zs) = xs.map (mvX a n) := by
  refine List.map_congr_left fun x hx => ?_
  unfold mvD
  rw [if_pos (h x hx)]
theorem moved_none (a n : Nat) (xs : List X) : xs.map (mvD a n []) = xs := by
  have : ∀ x ∈ xs, mvD a n [] x = x := fun x _ => by unfold mvD; rw [if_neg (by simp)]
  rw [List.map_congr_left this, List.map_id']
theorem RngAt.moved {W : World} {r b ck a n : Nat} {xs zs zs' ys : List X} (h : RngAt W r b (xs.map (mvD a n zs)) ys ck) : RngAt W r b (xs.map (mvD a n zs')) ys ck := by
  obtain ⟨since, c0, h1, h2, h3⟩ := h.iter
  refine ⟨since, c0, h1, fun x hx => ?_, h3⟩
  obtain ⟨y, hy, rfl⟩ := List.mem_map.1 hx
  have := h2 _ (List.mem_map.2 ⟨y, hy, rfl⟩)
  rw [(mvD_same a n zs y).1] at this
  rw [(mvD_same a n zs' y).1]
  exact this
theorem left_perm {xs ys : List X} (hs : ∀ y ∈ ys, y ∈ xs) (hn : (ys.map (·.born)).Nodup) : ys.length ≤ xs.length := by
  induction ys generalizing xs with
  | nil => simp
  | cons y ys ih =>
    rw [List.map_cons, List.nodup_cons] at hn
    have hy := hs y (List.mem_cons_self ..)
    obtain ⟨a, b, rfl⟩ := List.append_of_mem hy
    have := ih (xs := a ++ b) (fun z hz => by
      have h1 := hs z (List.mem_cons_of_mem _ hz)
      rcases List.mem_append.1 h1 with h1 | h1
      · exact List.mem_append.2 (.inl h1)
      · rcases List.mem_cons.1 h1 with rfl | h1
        · exact absurd (List.mem_map.2 ⟨z, hz, rfl⟩) hn.1
        · exact List.mem_append.2 (.inr h1)) hn.2
    simp only [List.length_append, List.length_cons] at this ⊢
    omega
/-- Where the moving stands. -/
structure Mvg (w wr : World) (r p b t ck : Nat) (xs : List X) (a n : Nat) (zs : List X) : Prop where
  sub : ∀ y ∈ zs, y ∈ xs
  nod : (zs.map (·.born)).Nodup
  rng : RngAt wr r b (xs.map (mvD a n zs)) zs ck
  book : BookAt wr p b t (xs.map (mvD a n zs)) ck
  chg : Chg (fun g => Blk p b xs g) w wr
  new : w.heap.size ≤ r
theorem Mvg.seen {w wr : World} {r p b t ck : Nat} {xs : List X} {a n : Nat} {zs : List X} (h : Mvg w wr r p b t ck xs a n zs) : ∃ s c, wr.heap[r]? = some (.mapIter (some b) s (zs.map (·.born)).toArray c) := by
  obtain ⟨s, c, e, _⟩ := h.rng.iter
  exact ⟨s, c, e⟩
theorem Mvg.step {w wr W1 W2 : World} {r p b t ck : Nat} {xs : List X} {a n : Nat} {zs : List X} {x : X} (h : Mvg w wr r p b t ck xs a n zs) (hin : x ∈ xs) (hnew : x.born ∉ zs.map (·.born)) (hrg : RngAt W1 r b (xs.map (mvD a n zs)) (zs ++ [x]) ck) (hC1 : Chg (fun q => q = r) wr W1) (hlt : ∀ y ∈ xs, y.q < w.heap.size) (hC2 : Chg (fun g => g = x.q) W1 W2) (hb : W2.heap[x.q]? = some (.cells #[.string ⟨x.nm.toArray⟩, .int .i64 ((mvX a n x).lo : Int), .int .i64 ((mvX a n x).hi : Int)] 29)) (hp : p < w.heap.size) (hbb : b < w.heap.size) : Mvg w W2 r p b t ck xs a n (zs ++ [x]) := by
  have hr := h.new
  have hB1 : BookAt W1 p b t (xs.map (mvD a n zs)) ck := h.book.chg hC1 (fun g hg e => by
    rcases hg with rfl | rfl | ⟨y, hy, rfl⟩
    · omega
    · omega
    · obtain ⟨y0, hy0, rfl⟩ := List.mem_map.1 hy
      rw [(mvD_same a n zs y0).2.2] at e
      have := hlt y0 hy0
      omega)
  have hqr : ¬ r = x.q := fun e => by have := hlt x hin; omega
  refine ⟨fun y hy => ?_, ?_, (hrg.chg hC2 hqr).moved, hB1.move hin hnew hC2 hb, ?_, hr⟩
  · rcases List.mem_append.1 hy with hy | hy
    · exact h.sub y hy
    · simp only [List.mem_singleton] at hy; subst hy; exact hin
  · rw [List.map_append, List.nodup_append]
    refine ⟨h.nod, by simp, ?_⟩
    intro u hu v hv
    simp at hv; subst hv
    exact fun e => hnew (e ▸ hu)
  · have h1 : Chg (fun g => Blk p b xs g) w W1 := h.chg.then hC1 (fun g e => .inr (by omega))
    exact h1.then hC2 (fun g e => .inl (.inr (.inr ⟨x, hin, e⟩)))
theorem unmoved {a n : Nat} {xs zs : List X} {x : X} (h : x ∈ xs.map (mvD a n zs)) (hnew : x.born ∉ zs.map (·.born)) : x ∈ xs := by
  obtain ⟨y, hy, rfl⟩ := List.mem_map.1 h
  have e : mvD a n zs y = y := by
    unfold mvD
    rw [if_neg (by rw [← (mvD_same a n zs y).1]; exact hnew)]
  rw [e]; exact hy
set_option maxHeartbeats 8000000 in
theorem makeRoom_any {w : World} {p b t ck a n : Nat} {xs : List X} (h : BookAt w p b t xs ck) (ht : t + n ≤ 4611686018427387904) (hx : ∀ x ∈ xs, x.lo + n ≤ 4611686018427387904 ∧ x.hi + n ≤ 4611686018427387904) :
    Calls Tryd.prog 14 #[.pointer (some ⟨p, 0, none⟩), .int .i64 (a : Int), .int .i64 (n : Int)] w fun e w' => e = .returned (.tuple #[]) ∧ BookAt w' p b (t + n) (xs.map (mvX a n)) ck ∧ Chg (fun g => Blk p b xs g) w w' := by
  obtain ⟨c0, c1⟩ := box2 h.box
  have f0 := Lib.frozen_of_heap h.box 0
  have y0 : IntKind.i64.wrap ((t : Int) + (n : Int)) = ((t + n : Nat) : Int) := by rw [IntWalk.i64_in _ (by omega)]; omega
  obtain ⟨tn, htn⟩ : ∃ tn, t + n = tn := ⟨_, rfl⟩
  rw [htn] at y0 ⊢
  obtain ⟨W1, hW1⟩ : ∃ W1, w.setCell ⟨p, 0, none⟩ (.int .i64 (tn : Int)) = W1 := ⟨_, rfl⟩
  have hC1 : Chg (fun g => g = p) w W1 := by rw [← hW1]; exact Chg.set (q := p) 0 w _ rfl
  have hbx1 : W1.heap[p]? = some (.cells #[.int .i64 (tn : Int), .map (some b)] 47) := by
    rw [← hW1]
    exact heap_setCell_cells h.box 0 _
  have hB1 : BookAt W1 p b tn xs ck := ⟨hbx1, h.map.chg hC1 (fun e => h.p_ne_b e.symm), fun x hx => (h.mark x hx).chg hC1 (fun e => h.p_ne_q hx e.symm), h.qs⟩
  obtain ⟨hrun, hrg⟩ := range_start hB1.map
  obtain ⟨e0, e1⟩ := box2 hbx1
  have hsz : W1.heap.size = w.heap.size := by rw [← hW1]; simp
  have hBA := below_alloc0 W1 (.mapIter (some b) ck #[] ck)
  have HS : Hid (Mvg w (W1.alloc (.mapIter (some b) ck #[] ck)) W1.heap.size p b tn ck xs a n []) := by
    refine ⟨by simp, by simp, ?_, ?_, ?_, by omega⟩
    · rw [moved_none]; exact hrg
    · rw [moved_none]; exact hB1.below hBA
    · exact (hC1.mono (fun g _ e => .inl e)).then (Chg.of_below hBA) (D := fun g => Blk p b xs g) (E := fun _ => False) (fun g e => e.elim)
  have HH : Hid ((∀ x ∈ xs, x.lo + n ≤ 4611686018427387904 ∧ x.hi + n ≤ 4611686018427387904) ∧ (∀ y ∈ xs, y.q < w.heap.size) ∧ p < w.heap.size ∧ b < w.heap.size ∧ w.setCell ⟨p, 0, none⟩ (.int .i64 (tn : Int)) = W1) := ⟨hx, fun y hy => (h.mark y hy).lt, h.lt (.inl rfl), h.lt (.inr (.inl rfl)), hW1⟩
  obtain ⟨r, hr⟩ : ∃ r, W1.heap.size = r := ⟨_, rfl⟩
  rw [hr] at hrun HS
  clear h ht hx hC1 hbx1 hB1 hrg hsz hBA hr htn
  go_enter Tryd.func14, Tryd.ntmps14
  go_upto_region 1 with fail
  clear hW1 c0 c1 f0
  go_wp2_with fail
  go_loopw [7] (fun _ wr => ∃ zs : List X, Hid (Mvg w wr r p b tn ck xs a n zs)) (fun _ wr => match wr.heap[r]? with | some (.mapIter _ _ seen _) => xs.length - seen.size | _ => 0)
  case atStart => exact ⟨[], HS.out⟩
  case round =>
    obtain ⟨zs, hcl⟩ := hrel
    rcases next_step hcl.out.book.map hcl.out.rng with ⟨hall, hnx⟩ | ⟨x, hx, hnew, V1, hnx, hrg1, hC1, hs1, hen⟩
    · have HE : Hid (BookAt wr p b tn (xs.map (mvX a n)) ck ∧ Chg (fun g => Blk p b xs g) w wr) := by
        refine ⟨?_, hcl.out.chg⟩
        have hb := hcl.out.book
        rw [moved_all (fun y hy => by
          have := hall _ (List.mem_map.2 ⟨y, hy, rfl⟩)
          rw [(mvD_same a n zs y).1] at this
          exact this)] at hb
        exact hb
      clear hall
      go_wp2_with fail
      go_end0
      exact ⟨rfl, HE.out⟩
    · have hin := unmoved hx hnew
      have hle := left_perm (xs := xs) (ys := zs ++ [x]) (fun y hy => by
        rcases List.mem_append.1 hy with hy | hy
        · exact hcl.out.sub y hy
        · simp only [List.mem_singleton] at hy; subst hy; exact hin) (by
        rw [List.map_append, List.nodup_append]
        exact ⟨hcl.out.nod, by simp, fun u hu v hv => by simp at hv; subst hv; exact fun e => hnew (e ▸ hu)⟩)
      have hbx := (hcl.out.book.chg hC1 (fun g hg e => by
        have h1 := hcl.out.new
        rcases hg with rfl | rfl | ⟨y, hy, rfl⟩
        · have := HH.out.2.2.1; omega
        · have := HH.out.2.2.2.1; omega
        · obtain ⟨y0, hy0, rfl⟩ := List.mem_map.1 hy
          rw [(mvD_same a n zs y0).2.2] at e
          have := HH.out.2.1 y0 hy0
          omega)).mark x hx
      obtain ⟨d0, d1, d2⟩ := box3 hbx.box
      have f1 := Lib.frozen_of_heap hbx.box 1
      have f2 := Lib.frozen_of_heap hbx.box 2
      obtain ⟨b1, b2⟩ := HH.out.1 x hin
      have HX : Hid (x ∈ xs ∧ x.born ∉ zs.map (·.born) ∧ RngAt V1 r b (xs.map (mvD a n zs)) (zs ++ [x]) ck ∧ Chg (fun q => q = r) wr V1 ∧ V1.heap[x.q]? = some (.cells #[.string ⟨x.nm.toArray⟩, .int .i64 (x.lo : Int), .int .i64 (x.hi : Int)] 29) ∧ zs.length + 1 ≤ xs.length) := ⟨hin, hnew, hrg1, hC1, hbx.box, by simpa using hle⟩
      have y1 : IntKind.i64.wrap ((x.lo : Int) + (n : Int)) = ((x.lo + n : Nat) : Int) := by rw [IntWalk.i64_in _ (by omega)]; omega
      have y2 : IntKind.i64.wrap ((x.hi : Int) + (n : Int)) = ((x.hi + n : Nat) : Int) := by rw [IntWalk.i64_in _ (by omega)]; omega
      clear hin hnew hrg1 hC1 hs1 hbx hle hx
      by_cases g1 : a ≤ x.lo
      · have z1 : decide ((a : Int) ≤ (x.lo : Int)) = true := decide_eq_true (by omega)
        by_cases g2 : a < x.hi
        · have z2 : decide ((a : Int) < (x.hi : Int)) = true := decide_eq_true (by omega)
          have HST : Hid (Mvg w (((V1).setCell ⟨x.q, 1, none⟩ (.int .i64 ((x.lo : Int) + (n : Int)))).setCell ⟨x.q, 2, none⟩ (.int .i64 ((x.hi : Int) + (n : Int)))) r p b tn ck xs a n (zs ++ [x])) := by
            obtain ⟨k1, k2, k3, k4, k5, -⟩ := HX.out
            refine hcl.out.step k1 k2 k3 k4 HH.out.2.1 ?_ ?_ HH.out.2.2.1 HH.out.2.2.2.1
            · exact (Chg.set (D := fun g => g = x.q) (q := x.q) 1 V1 _ rfl).trans (Chg.set (D := fun g => g = x.q) (q := x.q) 2 _ _ rfl)
            · have e1 : ((mvX a n x).lo : Int) = (x.lo : Int) + (n : Int) := by simp [mvX, g1]
              have e2 : ((mvX a n x).hi : Int) = (x.hi : Int) + (n : Int) := by simp [mvX, g2]
              rw [e1, e2]
              exact heap_setCell_cells (heap_setCell_cells k5 1 _) 2 _
          go_wp2_with fail
          refine ⟨⟨_, HST.out⟩, ?_⟩
          obtain ⟨s1, c1, e1⟩ := hcl.out.seen
          obtain ⟨s2, c2, e2⟩ := HST.out.seen
          have := HX.out.2.2.2.2.2
          simp only [e1, e2]
          simp
          omega
        · have z2 : decide ((a : Int) < (x.hi : Int)) = false := decide_eq_false (by omega)
          have HST : Hid (Mvg w ((V1).setCell ⟨x.q, 1, none⟩ (.int .i64 ((x.lo : Int) + (n : Int)))) r p b tn ck xs a n (zs ++ [x])) := by
            obtain ⟨k1, k2, k3, k4, k5, -⟩ := HX.out
            refine hcl.out.step k1 k2 k3 k4 HH.out.2.1 ?_ ?_ HH.out.2.2.1 HH.out.2.2.2.1
            · exact Chg.set (q := x.q) 1 _ _ rfl
            · have e1 : ((mvX a n x).lo : Int) = (x.lo : Int) + (n : Int) := by simp [mvX, g1]
              have e2 : ((mvX a n x).hi : Int) = (x.hi : Int) := by simp [mvX, g2]
              rw [e1, e2]
              exact heap_setCell_cells k5 1 _
          go_wp2_with fail
          refine ⟨⟨_, HST.out⟩, ?_⟩
          obtain ⟨s1, c1, e1⟩ := hcl.out.seen
          obtain ⟨s2, c2, e2⟩ := HST.out.seen
          have := HX.out.2.2.2.2.2
          simp only [e1, e2]
          simp
          omega
      · have z1 : decide ((a : Int) ≤ (x.lo : Int)) = false := decide_eq_false (by omega)
        by_cases g2 : a < x.hi
        · have z2 : decide ((a : Int) < (x.hi : Int)) = true := decide_eq_true (by omega)
          have HST : Hid (Mvg w ((V1).setCell ⟨x.q, 2, none⟩ (.int .i64 ((x.hi : Int) + (n : Int)))) r p b tn ck xs a n (zs ++ [x])) := by
            obtain ⟨k1, k2, k3, k4, k5, -⟩ := HX.out
            refine hcl.out.step k1 k2 k3 k4 HH.out.2.1 ?_ ?_ HH.out.2.2.1 HH.out.2.2.2.1
            · exact Chg.set (q := x.q) 2 _ _ rfl
            · have e1 : ((mvX a n x).lo : Int) = (x.lo : Int) := by simp [mvX, g1]
              have e2 : ((mvX a n x).hi : Int) = (x.hi : Int) + (n : Int) := by simp [mvX, g2]
              rw [e1, e2]
              exact heap_setCell_cells (k5) 2 _
          go_wp2_with fail
          refine ⟨⟨_, HST.out⟩, ?_⟩
          obtain ⟨s1, c1, e1⟩ := hcl.out.seen
          obtain ⟨s2, c2, e2⟩ := HST.out.seen
          have := HX.out.2.2.2.2.2
          simp only [e1, e2]
          simp
          omega
        · have z2 : decide ((a : Int) < (x.hi : Int)) = false := decide_eq_false (by omega)
          have HST : Hid (Mvg w (V1) r p b tn ck xs a n (zs ++ [x])) := by
            obtain ⟨k1, k2, k3, k4, k5, -⟩ := HX.out
            refine hcl.out.step k1 k2 k3 k4 HH.out.2.1 ?_ ?_ HH.out.2.2.1 HH.out.2.2.2.1
            · exact Chg.refl _ _
            · have e1 : ((mvX a n x).lo : Int) = (x.lo : Int) := by simp [mvX, g1]
              have e2 : ((mvX a n x).hi : Int) = (x.hi : Int) := by simp [mvX, g2]
              rw [e1, e2]
              exact k5
          go_wp2_with fail
          refine ⟨⟨_, HST.out⟩, ?_⟩
          obtain ⟨s1, c1, e1⟩ := hcl.out.seen
          obtain ⟨s2, c2, e2⟩ := HST.out.seen
          have := HX.out.2.2.2.2.2
          simp only [e1, e2]
          simp
          omega
end Go.Proofs.YtelcjhflopgojaaDoor
