import Derived.Test.YtelcjhflopgojaaMkK
import Derived.Laws.EntriesVeiled
/-! The marks for which something is so, in their order. -/
namespace Go.Proofs.Ytelcjhflopgojaa
open Go.RowKit Go.Lib Go.Sort Go.Shelf
set_option maxRecDepth 100000

theorem left_perm {xs ys : List X} (hs : ∀ y ∈ ys, y ∈ xs) (hn : (ys.map (·.born)).Nodup) : ∃ zs, (ys ++ zs).Perm xs := by
  induction ys with
  | nil => exact ⟨xs, List.Perm.refl _⟩
  | cons y ys ih =>
    rw [List.map_cons, List.nodup_cons] at hn
    obtain ⟨zs, hz⟩ := ih (fun z hz => hs z (List.mem_cons_of_mem _ hz)) hn.2
    have hy : y ∈ ys ++ zs := hz.mem_iff.2 (hs y (List.mem_cons_self ..))
    rcases List.mem_append.1 hy with hy | hy
    · exact absurd (List.mem_map.2 ⟨y, hy, rfl⟩) hn.1
    · obtain ⟨a, b, rfl⟩ := List.append_of_mem hy
      refine ⟨a ++ b, List.Perm.trans ?_ hz⟩
      have : (y :: (ys ++ (a ++ b))).Perm (ys ++ (a ++ y :: b)) := by
        have h1 := (List.perm_middle (a := y) (l₁ := ys ++ a) (l₂ := b)).symm
        simpa [List.append_assoc] using h1
      simpa using this
theorem born_inj {xs : List X} (hx : (xs.map (·.born)).Nodup) {x y : X} (h1 : x ∈ xs) (h2 : y ∈ xs) (e : x.born = y.born) : x = y := by
  induction xs with
  | nil => cases h1
  | cons z t ih =>
    rw [List.map_cons, List.nodup_cons] at hx
    rcases List.mem_cons.1 h1 with h1 | h1
    · rcases List.mem_cons.1 h2 with h2 | h2
      · rw [h1, h2]
      · exact absurd (List.mem_map.2 ⟨y, h2, by rw [← e, h1]⟩) hx.1
    · rcases List.mem_cons.1 h2 with h2 | h2
      · exact absurd (List.mem_map.2 ⟨x, h1, by rw [e, h2]⟩) hx.1
      · exact ih hx.2 h1 h2
theorem all_met {xs ys : List X} (hs : ∀ y ∈ ys, y ∈ xs) (hn : (ys.map (·.born)).Nodup) (hx : (xs.map (·.born)).Nodup) (ha : ∀ x ∈ xs, x.born ∈ ys.map (·.born)) : ys.Perm xs := by
  obtain ⟨zs, hz⟩ := left_perm hs hn
  cases zs with
  | nil => simpa using hz
  | cons z zs =>
    exfalso
    have hzx : z ∈ xs := hz.mem_iff.1 (by simp)
    have h1 := (hz.map (·.born)).nodup_iff.2 hx
    rw [List.map_append, List.nodup_append] at h1
    exact h1.2.2 _ (ha z hzx) _ (by simp) rfl
theorem nodup_snoc {ys : List X} {x : X} (hn : (ys.map (·.born)).Nodup) (h : x.born ∉ ys.map (·.born)) : ((ys ++ [x]).map (·.born)).Nodup := by
  rw [List.map_append, List.nodup_append]
  refine ⟨hn, by simp, fun a ha c hc => ?_⟩
  simp at hc
  subst hc
  exact fun e => h (e ▸ ha)
theorem sub_snoc {xs ys : List X} {x : X} (hs : ∀ y ∈ ys, y ∈ xs) (hx : x ∈ xs) : ∀ y ∈ ys ++ [x], y ∈ xs := fun y hy => by
  rcases List.mem_append.1 hy with hy | hy
  · exact hs y hy
  · simp at hy; subst hy; exact hx
theorem own_blockF {W : World} {B : Nat} {v : Value} {l : List Mk} (h : OwnF mkV 3 34 W B v l) {g : Nat} (hg : v.ownBlock = some g) : ∃ cur : Array Value, W.heap[g]? = some (.cells cur 34) := by
  rcases h.2 with ⟨rfl, _⟩ | ⟨g', cap, cur, rfl, _, hh, _⟩
  · simp [Value.ownBlock] at hg
  · simp [Value.ownBlock] at hg
    subst hg
    exact ⟨_, hh⟩
theorem layOne (m : Mk) : mkV m = [.string ⟨m.nm.toArray⟩, .int .i64 (m.lo : Int), .int .i64 (m.hi : Int)] := rfl
/-- The marks of entries for which it is so. -/
def sel (P : Mk → Bool) (zs : List X) : List Mk := (zs.map X.mk1).filter P
theorem sel_snoc (P : Mk → Bool) (zs : List X) (x : X) : sel P (zs ++ [x]) = if P x.mk1 = true then sel P zs ++ [x.mk1] else sel P zs := by
  unfold sel
  rw [List.map_append, List.filter_append]
  by_cases h : P x.mk1 = true
  · rw [if_pos h]; simp [h]
  · rw [if_neg h]; simp [h]
theorem sel_le (P : Mk → Bool) (zs : List X) : (sel P zs).length ≤ zs.length := by
  unfold sel
  exact Nat.le_trans (List.length_filter_le _ _) (by rw [List.length_map]; exact Nat.le_refl _)
/-- Where the collecting stands. -/
structure Coll (w wr : World) (b ck : Nat) (xs : List X) (P : Mk → Bool) (v : Value) (zs : List X) : Prop where
  sub : ∀ y ∈ zs, y ∈ xs
  nod : (zs.map (·.born)).Nodup
  rng : RngAt wr w.heap.size b xs zs ck
  below : Below w.heap.size w wr
  own : OwnF mkV 3 34 wr (w.heap.size + 1) v (sel P zs)
/-- What a list of marks is that is answered. -/
def ThoseP (w : World) (L : List Mk) (P : Mk → Bool) (e : Ending) (w' : World) : Prop := ∃ a cap k, e = .returned (.slice a (k : List Mk).length cap) ∧ k.Perm (L.filter P) ∧ Rises k ∧ Rw mkV 3 w' a k.length cap k ∧ Below w.heap.size w w' ∧ ∀ p, a = some p → w.heap.size ≤ p.block ∧ p.off = 0 ∧ ∃ cs, w'.heap[p.block]? = some (.cells cs 34)
theorem Coll.ends0 {w wr : World} {p b t ck : Nat} {xs : List X} {P : Mk → Bool} {a : Option Addr} {cap : Nat} {zs : List X} (hD : BookAt w p b t xs ck) (h : Coll w wr b ck xs P (.slice a 0 cap) zs) (h0 : sel P zs = []) (hall : ∀ x ∈ xs, x.born ∈ zs.map (·.born)) : ThoseP w (xs.map X.mk1) P (.returned (.slice a 0 cap)) wr := by
  have hp := all_met h.sub h.nod hD.map.born hall
  have ho := h.own
  rw [h0] at ho
  have hr := ho.rw_ layMk
  refine ⟨a, cap, [], rfl, ?_, List.Pairwise.nil, hr, h.below, ?_⟩
  · have h1 : (sel P zs).Perm ((xs.map X.mk1).filter P) := (hp.map X.mk1).filter P
    rw [h0] at h1
    exact h1
  · intro q hq
    subst hq
    rcases ho.2 with ⟨e, _⟩ | ⟨g, cap', cur, e, h1, hh, _⟩
    · cases e
    · simp only [Value.slice.injEq, Option.some.injEq] at e
      obtain ⟨rfl, _, rfl⟩ := e
      exact ⟨Nat.le_trans (Nat.le_succ _) h1, rfl, _, hh⟩
theorem Coll.ends {w wr W' : World} {p b t ck g cap m : Nat} {xs : List X} {P : Mk → Bool} {zs : List X} (hD : BookAt w p b t xs ck) (h : Coll w wr b ck xs P (.slice (some ⟨g, 0, none⟩) m cap) zs) (hm : (sel P zs).length = m) (hall : ∀ x ∈ xs, x.born ∈ zs.map (·.born)) {k : List Mk} (hp : k.Perm (sel P zs)) (hr : Rises k) (hrw : Rw mkV 3 W' (some ⟨g, 0, none⟩) m m k) (hC : Chg (fun q => q = g) wr W') (hcs : ∃ cs, W'.heap[g]? = some (.cells cs 34)) : ThoseP w (xs.map X.mk1) P (.returned (.slice (some ⟨g, 0, none⟩) m cap)) W' := by
  have hB : w.heap.size + 1 ≤ g := h.own.ge rfl
  have hroom := (h.own.rw_ layMk).room
  have hl : k.length = m := by rw [hp.length_eq, hm]
  refine ⟨_, cap, k, by rw [hl], hp.trans ((all_met h.sub h.nod hD.map.born hall).map X.mk1 |>.filter P), hr, ?_, h.below.trans (hC.below (fun q e => by omega) h.below.size), ?_⟩
  · rw [hl]
    exact ⟨hrw.len, hroom, hrw.cells⟩
  · rintro q hq
    obtain rfl := Option.some.inj hq
    exact ⟨Nat.le_trans (Nat.le_succ _) hB, rfl, hcs⟩
theorem Coll.seen {w wr : World} {b ck : Nat} {xs : List X} {P : Mk → Bool} {v : Value} {zs : List X} (h : Coll w wr b ck xs P v zs) : ∃ s c, wr.heap[w.heap.size]? = some (.mapIter (some b) s (zs.map (·.born)).toArray c) := by
  obtain ⟨s, c, e, _⟩ := h.rng.iter
  exact ⟨s, c, e⟩
theorem Coll.step_no {w wr W1 W2 : World} {b ck : Nat} {xs : List X} {P : Mk → Bool} {v : Value} {zs : List X} {x : X} (h : Coll w wr b ck xs P v zs) (hx : x ∈ xs) (hnew : x.born ∉ zs.map (·.born)) (hrg : RngAt W1 w.heap.size b xs (zs ++ [x]) ck) (hC1 : Chg (fun q => q = w.heap.size) wr W1) (hb : Below W1.heap.size W1 W2) (hP : P x.mk1 = false) : Coll w W2 b ck xs P v (zs ++ [x]) := by
  have hB1 : Below w.heap.size w W1 := h.below.trans (hC1.below (fun q e => by omega) h.below.size)
  refine ⟨sub_snoc h.sub hx, nodup_snoc h.nod hnew, hrg.chg (D := fun q => W1.heap.size ≤ q) (Chg.of_below hb) (by have := hrg.lt; omega), hB1.trans (hb.mono hB1.size), ?_⟩
  rw [sel_snoc, if_neg (by rw [hP]; decide)]
  exact (h.own.chg hC1 (fun q hq e => by have := h.own.ge hq; omega)).below hb
theorem Coll.step_yes {w wr W1 W2 W3 : World} {b ck : Nat} {xs : List X} {P : Mk → Bool} {v v' : Value} {zs : List X} {x : X} (h : Coll w wr b ck xs P v zs) (hx : x ∈ xs) (hnew : x.born ∉ zs.map (·.born)) (hrg : RngAt W1 w.heap.size b xs (zs ++ [x]) ck) (hC1 : Chg (fun q => q = w.heap.size) wr W1) (hb : Below W1.heap.size W1 W2) (hP : P x.mk1 = true) (ho : OwnF mkV 3 34 W3 (w.heap.size + 1) v' (sel P zs ++ [x.mk1])) (hb3 : Below (w.heap.size + 1) W2 W3) : Coll w W3 b ck xs P v' (zs ++ [x]) := by
  have hB1 : Below w.heap.size w W1 := h.below.trans (hC1.below (fun q e => by omega) h.below.size)
  have hB2 := hB1.trans (hb.mono hB1.size)
  have h2 : RngAt W2 w.heap.size b xs (zs ++ [x]) ck := hrg.chg (D := fun q => W1.heap.size ≤ q) (Chg.of_below hb) (by have := hrg.lt; omega)
  refine ⟨sub_snoc h.sub hx, nodup_snoc h.nod hnew, h2.chg (D := fun q => w.heap.size + 1 ≤ q) ⟨hb3.mono (Nat.zero_le _), fun g _ hn => hb3.block g (by omega)⟩ (by omega), hB2.trans (hb3.mono (Nat.le_succ _)), ?_⟩
  rw [sel_snoc, if_pos hP]
  exact ho
set_option maxHeartbeats 8000000 in
theorem those_any {w : World} {p b t ck : Nat} {xs : List X} (h : BookAt w p b t xs ck) (hc : xs.length ≤ 1000000) (hnm : ∀ x ∈ xs, x.nm.length ≤ 281474976710656) (P : Mk → Bool) (k : Nat) (caps : Array Value) (hE : ∀ (args : Array Value) (w : World), (callFunc k args).run Try.prog w = .ok (.enter k args) w)
    (hF : ∀ x ∈ xs, ∀ W, Below w.heap.size w W → Calls Try.prog k (#[.agg #[.string ⟨x.nm.toArray⟩, .int .i64 (x.lo : Int), .int .i64 (x.hi : Int)]] ++ caps) W fun e w' => e = .returned (.bool (P x.mk1)) ∧ Below W.heap.size W w') :
    Calls Try.prog 17 #[.pointer (some ⟨p, 0, none⟩), .func (.func k) #[] caps] w fun e w' => ThoseP w (xs.map X.mk1) P e w' := by
  obtain ⟨c0, c1⟩ := box2 h.box
  obtain ⟨hrun, hrg⟩ := range_start h.map
  have HH : Hid (BookAt w p b t xs ck ∧ xs.length ≤ 1000000 ∧ (∀ x ∈ xs, x.nm.length ≤ 281474976710656) ∧ ∀ x ∈ xs, ∀ W, Below w.heap.size w W → Calls Try.prog k (#[.agg #[.string ⟨x.nm.toArray⟩, .int .i64 (x.lo : Int), .int .i64 (x.hi : Int)]] ++ caps) W fun e w' => e = .returned (.bool (P x.mk1)) ∧ Below W.heap.size W w') := ⟨h, hc, hnm, hF⟩
  have HS : Hid (Coll w (w.alloc (.mapIter (some b) ck #[] ck)) b ck xs P (.slice none 0 0) []) := ⟨by simp, by simp, hrg, (Below.refl _ _).alloc (Nat.le_refl _) _, ownF_nil _ _⟩
  clear h hc hnm hrg hF
  go_enter Try.func17, Try.ntmps17
  go_wp2_with fail
  go_loopw [5, 7] (fun v _ wr => ∃ zs : List X, Hid (Coll w wr b ck xs P v zs)) (fun _ _ wr => match wr.heap[w.heap.size]? with | some (.mapIter _ _ seen _) => xs.length - seen.size | _ => 0)
  case atStart => exact ⟨[], HS.out⟩
  case round =>
    obtain ⟨zs, hcl⟩ := hrel
    obtain ⟨a5, cap5, ev⟩ := hcl.out.own.shape
    subst ev
    obtain ⟨m, hm⟩ : ∃ m, (sel P zs).length = m := ⟨_, rfl⟩
    rw [hm] at hcl ⊢
    have hDr := HH.out.1.below hcl.out.below
    rcases next_step hDr.map hcl.out.rng with ⟨hall, hnx⟩ | ⟨x, hx, hnew, W1, hnx, hrg1, hC1, hs1, hen⟩
    · have hms : m ≤ 1000000 := by
        have h1 := sel_le P zs
        have h2 := (all_met hcl.out.sub hcl.out.nod HH.out.1.map.born hall).length_eq
        have := HH.out.2.1
        omega
      rcases Nat.eq_zero_or_pos m with h0 | h0
      · subst h0
        have HSO : Hid (∀ w, Calls Try.prog 23 #[.slice a5 0 cap5, .func (.func 24) #[] #[]] w fun e w' => e = .returned (.tuple #[]) ∧ w' = w) := sortM_none a5 cap5
        have HE : Hid (ThoseP w (xs.map X.mk1) P (.returned (.slice a5 0 cap5)) wr) := hcl.out.ends0 HH.out.1 (List.length_eq_zero_iff.1 hm) hall
        clear hall hDr hms
        go_wp2_with fail
        refine (HSO.out _).mono ?_
        rintro e w9 ⟨rfl, hww⟩
        obtain rfl := hww.symm
        clear hww
        go_wp2_with fail
        go_ret
        exact HE.out
      · obtain ⟨g, rfl⟩ : ∃ g, a5 = some ⟨g, 0, none⟩ := by
          rcases hcl.out.own.2 with ⟨e, e2⟩ | ⟨g, cap', cur, e, _⟩
          · simp only [Value.slice.injEq] at e
            omega
          · simp only [Value.slice.injEq] at e
            exact ⟨g, e.1⟩
        have HSO : Hid (Calls Try.prog 23 #[.slice (some ⟨g, 0, none⟩) m cap5, .func (.func 24) #[] #[]] wr fun e w' => e = .returned (.tuple #[]) ∧ ∃ k : List Mk, k.Perm (sel P zs) ∧ Rises k ∧ Rw mkV 3 w' (some ⟨g, 0, none⟩) m m k ∧ Chg (fun q => q = g) wr w' ∧ ∃ cs, w'.heap[g]? = some (.cells cs 34)) := sortM hcl.out.own (by omega)
        have HAL : Hid (∀ x ∈ xs, x.born ∈ zs.map (·.born)) := hall
        have HM : Hid ((sel P zs).length = m) := hm
        clear hall hDr hms hm
        go_wp2_with fail
        refine HSO.out.mono ?_
        rintro e w9 ⟨rfl, k9, hp, hri, hrw, hC, hcs⟩
        have HE : Hid (ThoseP w (xs.map X.mk1) P (.returned (.slice (some ⟨g, 0, none⟩) m cap5)) w9) := hcl.out.ends HH.out.1 HM.out HAL.out hp hri hrw hC hcs
        clear hp hri hrw hC hcs HSO HAL
        go_wp2_with fail
        go_ret
        exact HE.out
    · have hlen9 : zs.length + 1 ≤ xs.length := by
        obtain ⟨us, hus⟩ := left_perm (sub_snoc hcl.out.sub hx) (nodup_snoc hcl.out.nod hnew)
        have := hus.length_eq
        simp at this
        omega
      have hB1 : Below w.heap.size w W1 := hcl.out.below.trans (hC1.below (fun q e => by omega) hcl.out.below.size)
      have hF1 := (HH.out.1.below hB1).mark x hx
      obtain ⟨d0, d1, d2⟩ := box3 hF1.box
      have HFx : Hid (Calls Try.prog k (#[.agg #[.string ⟨x.nm.toArray⟩, .int .i64 (x.lo : Int), .int .i64 (x.hi : Int)]] ++ caps) W1 fun e w' => e = .returned (.bool (P x.mk1)) ∧ Below W1.heap.size W1 w') := HH.out.2.2.2 x hx W1 hB1
      have HN : Hid (x ∈ xs ∧ x.born ∉ zs.map (·.born) ∧ RngAt W1 w.heap.size b xs (zs ++ [x]) ck ∧ Chg (fun q => q = w.heap.size) wr W1 ∧ zs.length + 1 ≤ xs.length ∧ W1.heap.size = wr.heap.size ∧ Below w.heap.size w W1 ∧ x.q < W1.heap.size ∧ W1.heap[x.q]? = some (.cells #[.string ⟨x.nm.toArray⟩, .int .i64 (x.lo : Int), .int .i64 (x.hi : Int)] 34) ∧ (sel P zs).length = m) := ⟨hx, hnew, hrg1, hC1, hlen9, hs1, hB1, hF1.lt, hF1.box, hm⟩
      clear hx hnew hrg1 hC1 hlen9 hs1 hF1 hDr hB1 hm
      go_wp2_with fail
      refine HFx.out.mono ?_
      rintro e W2 ⟨rfl, hb2⟩
      have hlt := HN.out.2.2.2.2.2.2.2.1
      cases hP : P x.mk1 with
      | false =>
        have HST : Hid (Coll w W2 b ck xs P (.slice a5 m cap5) (zs ++ [x])) := hcl.out.step_no HN.out.1 HN.out.2.1 HN.out.2.2.1 HN.out.2.2.2.1 hb2 hP
        clear hb2 hP d0 d1 d2 HFx hnx hen hlt
        go_wp2_with fail
        refine ⟨⟨_, HST.out⟩, ?_⟩
        obtain ⟨s1, c1, e1⟩ := hcl.out.seen
        obtain ⟨s2, c2, e2⟩ := HST.out.seen
        have := HN.out.2.2.2.2.1
        simp only [e1, e2]
        simp
        omega
      | true =>
        obtain ⟨d0, d1, d2⟩ := box3 ((hb2.block x.q hlt).trans HN.out.2.2.2.2.2.2.2.2.1)
        have HCo : Hid (Calls Try.prog 16 #[.agg #[.string ⟨x.nm.toArray⟩, .int .i64 (x.lo : Int), .int .i64 (x.hi : Int)]] W2 fun e w' => e = .returned (.agg #[.string ⟨x.nm.toArray⟩, .int .i64 (x.lo : Int), .int .i64 (x.hi : Int)]) ∧ Below W2.heap.size W2 w') := copied_any x.nm (HH.out.2.2.1 x HN.out.1) _ _ W2
        have HB2 : Hid (Below W1.heap.size W1 W2 ∧ P x.mk1 = true) := ⟨hb2, hP⟩
        clear hb2 hP HFx hnx hen hlt
        go_wp2_with fail
        refine HCo.out.mono ?_
        rintro e W3 ⟨rfl, hb3⟩
        have hb13 : Below W1.heap.size W1 W3 := HB2.out.1.trans (hb3.mono HB2.out.1.size)
        have hB1 := HN.out.2.2.2.2.2.2.1
        have hr1 := HN.out.2.2.1.lt
        have ho3 : OwnF mkV 3 34 W3 (w.heap.size + 1) (.slice a5 m cap5) (sel P zs) := (hcl.out.own.chg HN.out.2.2.2.1 (fun q hq e => by have := hcl.out.own.ge hq; omega)).below hb13
        have hms : (sel P zs).length ≤ 1000000 := by
          have h1 := sel_le P zs
          have := HH.out.2.1
          have := HN.out.2.2.2.2.1
          omega
        obtain ⟨g8, cap8, w8, hr8, ho8, hb8, -⟩ := appendF_one kindMk layMk ho3 (by have := hb13.size; omega) x.mk1 #[.string ⟨x.nm.toArray⟩, .int .i64 (x.lo : Int), .int .i64 (x.hi : Int)] rfl 34 (by omega) (by omega) 39
        rw [HN.out.2.2.2.2.2.2.2.2.2] at hr8 ho8
        have HST : Hid (Coll w w8 b ck xs P (.slice (some ⟨g8, 0, none⟩) (m + 1) cap8) (zs ++ [x])) := hcl.out.step_yes HN.out.1 HN.out.2.1 HN.out.2.2.1 HN.out.2.2.2.1 hb13 HB2.out.2 ho8 hb8
        clear HCo hb3 hb13 hB1 hr1 ho3 hms ho8 hb8 d0 d1 d2
        go_wp2_with (at_builtin; refine wpList_append_hr rfl _ _ 39 rfl _ _ rfl rfl hr8 ?_)
        refine ⟨⟨_, HST.out⟩, ?_⟩
        obtain ⟨s1, c1, e1⟩ := hcl.out.seen
        obtain ⟨s2, c2, e2⟩ := HST.out.seen
        have := HN.out.2.2.2.2.1
        simp only [e1, e2]
        simp
        omega
end Go.Proofs.Ytelcjhflopgojaa
