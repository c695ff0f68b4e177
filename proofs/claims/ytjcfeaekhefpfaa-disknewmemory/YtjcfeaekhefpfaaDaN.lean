import Derived.Test.YtjcfeaekhefpfaaDaM
import Derived.Test.YtjcfeaekhefpfaaDeW
/-! Files. -/
namespace Go.Proofs.Ytjcfeaekhefpfaa
open Go.RowKit Go.Lib Go.Sort Go.Shelf
set_option maxRecDepth 100000

/-- An answered file is a file's copy. -/
structure FvOk (W : World) (B : Nat) (f : Fv) (x : X) : Prop where
  nm : f.nm = x.nm
  syn : f.syn = x.syn
  own : OwnF byU 1 5 W B (.slice f.a f.n f.cap) x.bs
def ownFv (f : Fv) : Option Nat := (Value.slice f.a f.n f.cap).ownBlock
theorem perm_lift {α β : Type} (f : α → β) : ∀ {k m : List β}, k.Perm m → ∀ zs : List α, zs.map f = m → ∃ zs' : List α, zs'.Perm zs ∧ zs'.map f = k := by
  intro k m h
  induction h with
  | nil => intro zs hz; exact ⟨zs, List.Perm.refl _, hz⟩
  | cons x _ ih =>
    intro zs hz
    cases zs with
    | nil => simp at hz
    | cons z zs =>
      simp only [List.map_cons, List.cons.injEq] at hz
      obtain ⟨zs', h1, h2⟩ := ih zs hz.2
      exact ⟨z :: zs', h1.cons z, by simp [h2, hz.1]⟩
  | swap x y l =>
    intro zs hz
    match zs, hz with
    | [], hz => simp at hz
    | [_], hz => simp at hz
    | z1 :: z2 :: zs, hz =>
      simp only [List.map_cons, List.cons.injEq] at hz
      exact ⟨z2 :: z1 :: zs, List.Perm.swap _ _ _, by simp [hz.1, hz.2.1, hz.2.2]⟩
  | trans _ _ ih1 ih2 =>
    intro zs hz
    obtain ⟨z2, h1, h2⟩ := ih2 zs hz
    obtain ⟨z3, h3, h4⟩ := ih1 z2 h2
    exact ⟨z3, h3.trans h1, h4⟩
theorem FvOk.chg {W W' : World} {B : Nat} {f : Fv} {x : X} {D : Nat → Prop} (h : FvOk W B f x) (hC : Chg D W W') (hD : ∀ g, ownFv f = some g → ¬ D g) : FvOk W' B f x := ⟨h.nm, h.syn, h.own.chg hC hD⟩
theorem own_blockF {W : World} {B : Nat} {v : Value} {l : List Fv} (h : OwnF fvV 3 39 W B v l) {g : Nat} (hg : v.ownBlock = some g) : ∃ cur : Array Value, W.heap[g]? = some (.cells cur 39) := by
  rcases h.2 with ⟨rfl, _⟩ | ⟨g', cap, cur, rfl, _, hh, _⟩
  · simp [Value.ownBlock] at hg
  · simp [Value.ownBlock] at hg
    subst hg
    exact ⟨_, hh⟩
theorem own_blockU {W : World} {B : Nat} {v : Value} {l : List UInt8} (h : OwnF byU 1 5 W B v l) {g : Nat} (hg : v.ownBlock = some g) : ∃ cur : Array Value, W.heap[g]? = some (.cells cur 5) := own_block (h.mono (Nat.zero_le _)) hg
/-- Where the collecting stands. -/
structure Coll (w wr : World) (r b ck : Nat) (xs : List X) (g cap : Nat) (zs : List (Fv × X)) : Prop where
  sub : ∀ y ∈ zs.map (·.2), y ∈ xs
  nod : ((zs.map (·.2)).map (·.born)).Nodup
  rng : RngAt wr r b xs (zs.map (·.2)) ck
  below : Below w.heap.size w wr
  own : OwnF fvV 3 39 wr w.heap.size (.slice (some ⟨g, 0, none⟩) zs.length cap) (zs.map (·.1))
  each : ∀ z ∈ zs, FvOk wr w.heap.size z.1 z.2
  apart : zs.Pairwise (fun x y => ∀ g, ownFv x.1 = some g → ownFv y.1 ≠ some g)
theorem len_map {W : World} {b ck : Nat} {xs : List X} (h : MapAt W b xs ck) : ∀ ty, (Builtin.len_ #[59] ty #[.map (some b)]).run Try.prog W = .ok (.int .i64 (xs.length : Int)) W := fun ty => by
  simp [Builtin.len_, run_underlying Try.underlying59, MapKept.run_getObj_map h.heap, goInt]
/-- What Files answers. -/
def FilesP (w : World) (xs : List X) (e : Ending) (w' : World) : Prop := ∃ (g cap : Nat) (zs : List (Fv × X)), e = .returned (.slice (some ⟨g, 0, none⟩) zs.length cap) ∧ (zs.map (·.2)).Perm xs ∧ Rises (zs.map (·.1)) ∧ Rw fvV 3 w' (some ⟨g, 0, none⟩) zs.length cap (zs.map (·.1)) ∧ (∀ z ∈ zs, FvOk w' w.heap.size z.1 z.2) ∧ zs.Pairwise (fun x y => ∀ g, ownFv x.1 = some g → ownFv y.1 ≠ some g) ∧ Below w.heap.size w w' ∧ w.heap.size ≤ g ∧ (∀ z ∈ zs, ownFv z.1 ≠ some g) ∧ ∃ cs, w'.heap[g]? = some (.cells cs 39)
theorem Coll.ends {w wr W' : World} {r b ck g cap : Nat} {xs : List X} {zs : List (Fv × X)} (hD : MapAt w b xs ck) (h : Coll w wr r b ck xs g cap zs) (hall : ∀ x ∈ xs, x.born ∈ (zs.map (·.2)).map (·.born)) {k : List Fv} (hp : k.Perm (zs.map (·.1))) (hr : Rises k) (hrw : Rw fvV 3 W' (some ⟨g, 0, none⟩) zs.length zs.length k) (hC : Chg (fun q => q = g) wr W') (hcs : ∃ cs, W'.heap[g]? = some (.cells cs 39)) : FilesP w xs (.returned (.slice (some ⟨g, 0, none⟩) zs.length cap)) W' := by
  obtain ⟨zs', hz1, hz2⟩ := perm_lift (·.1) hp zs rfl
  have hB : w.heap.size ≤ g := h.own.ge rfl
  have hne : ∀ z ∈ zs, ownFv z.1 ≠ some g := fun z hz e => by
    obtain ⟨c1, e1⟩ := own_blockF h.own (g := g) rfl
    obtain ⟨c2, e2⟩ := own_blockU (h.each z hz).own e
    rw [e1] at e2
    simp at e2
  have hroom := (h.own.rw_ layFv).room
  have hl := hz1.length_eq
  refine ⟨g, cap, zs', by rw [hl], ?_, by rw [hz2]; exact hr, ?_, fun z hz => ?_, ?_, ?_, hB, fun z hz => hne z (hz1.mem_iff.1 hz), hcs⟩
  · exact (hz1.map _).trans (all_met h.sub h.nod hD.born hall)
  · rw [hz2, hl]
    exact ⟨hrw.len, hroom, hrw.cells⟩
  · have hz' := hz1.mem_iff.1 hz
    exact (h.each z hz').chg hC (fun g' hg' e => hne z hz' (by rw [hg', e]))
  · refine (hz1.pairwise_iff ?_).2 h.apart
    intro x y hxy g' h1 h2
    exact hxy g' h2 h1
  · exact h.below.trans (hC.below (fun q e => by omega) h.below.size)
theorem Coll.step {w wr W1 w3 w8 : World} {r b ck g cap g8 cap8 cap3 : Nat} {a3 : Option Addr} {xs : List X} {zs : List (Fv × X)} {x : X} (h : Coll w wr r b ck xs g cap zs) (hx : x ∈ xs) (hnew : x.born ∉ (zs.map (·.2)).map (·.born)) (hrg : RngAt W1 r b xs (zs.map (·.2) ++ [x]) ck) (hC1 : Chg (fun q => q = r) wr W1) (hr0 : w.heap.size ≤ r) (hcur3 : Below W1.heap.size W1 w3) (ho3 : ∃ B3, wr.heap.size ≤ B3 ∧ OwnF byU 1 5 w3 B3 (.slice a3 x.bs.length cap3) x.bs)
    (ho8 : OwnF fvV 3 39 w8 w.heap.size (.slice (some ⟨g8, 0, none⟩) ((zs.map (·.1)).length + 1) cap8) (zs.map (·.1) ++ [⟨x.nm, a3, x.bs.length, cap3, x.syn⟩])) (hb8 : Below w.heap.size w3 w8) (hk8 : Keeps w3 w8 (.slice (some ⟨g, 0, none⟩) zs.length cap)) : Coll w w8 r b ck xs g8 cap8 (zs ++ [(⟨x.nm, a3, x.bs.length, cap3, x.syn⟩, x)]) := by
  obtain ⟨B3, hB3, ho3⟩ := ho3
  have hsz1 := hC1.size
  have hsz3 := hcur3.size
  have hrlt := h.rng.lt
  obtain ⟨cg, hcg⟩ := own_blockF h.own (g := g) rfl
  have hglt : g < wr.heap.size := (Array.getElem?_eq_some_iff.1 hcg).1
  have hri : ∃ m s ys c, wr.heap[r]? = some (.mapIter m s ys c) := by
    obtain ⟨s, c, e, _⟩ := h.rng.iter
    exact ⟨_, _, _, _, e⟩
  have hgr : g ≠ r := by
    obtain ⟨m, s, ys, c, e⟩ := hri
    rintro rfl
    rw [hcg] at e
    cases e
  have hC13 : Chg (fun q => q = r) wr w3 := hC1.trans (Chg.of_below hcur3)
  have hC38 : Chg (fun q => q = g) w3 w8 := ⟨hb8.mono (Nat.zero_le _), fun q hq hne => hk8 q hq (fun e => hne (by simpa [Value.ownBlock] using e.symm))⟩
  have hold : ∀ z ∈ zs, ∀ q, ownFv z.1 = some q → q ≠ r ∧ q ≠ g ∧ q < wr.heap.size := fun z hz q hq => by
    obtain ⟨c2, e2⟩ := own_blockU (h.each z hz).own hq
    refine ⟨?_, ?_, (Array.getElem?_eq_some_iff.1 e2).1⟩
    · obtain ⟨m, s, ys, c, e⟩ := hri
      rintro rfl
      rw [e2] at e
      cases e
    · rintro rfl
      rw [hcg] at e2
      simp at e2
  have e2 : (zs ++ [((⟨x.nm, a3, x.bs.length, cap3, x.syn⟩ : Fv), x)]).map (·.2) = zs.map (·.2) ++ [x] := by simp
  have e1 : (zs ++ [((⟨x.nm, a3, x.bs.length, cap3, x.syn⟩ : Fv), x)]).map (·.1) = zs.map (·.1) ++ [⟨x.nm, a3, x.bs.length, cap3, x.syn⟩] := by simp
  have hn3 : ∀ q, (Value.slice a3 x.bs.length cap3).ownBlock = some q → wr.heap.size ≤ q := fun q hq => Nat.le_trans hB3 (ho3.ge hq)
  refine ⟨by rw [e2]; exact sub_snoc h.sub hx, by rw [e2]; exact nodup_snoc h.nod hnew, ?_, ?_, ?_, fun z hz => ?_, ?_⟩
  · rw [e2]
    exact (hrg.chg (D := fun q => W1.heap.size ≤ q) (Chg.of_below hcur3) (by omega)).chg hC38 (fun e => hgr e.symm)
  · exact ((h.below.trans (hC1.below (fun q e => by omega) h.below.size)).trans (hcur3.mono (by have := h.below.size; omega))).trans hb8
  · rw [e1]
    have : (zs ++ [((⟨x.nm, a3, x.bs.length, cap3, x.syn⟩ : Fv), x)]).length = (zs.map (·.1)).length + 1 := by simp
    rw [this]
    exact ho8
  · rcases List.mem_append.1 hz with hz | hz
    · exact ((h.each z hz).chg hC13 (fun q hq => (hold z hz q hq).1)).chg hC38 (fun q hq => (hold z hz q hq).2.1)
    · simp only [List.mem_singleton] at hz
      subst hz
      refine ⟨rfl, rfl, (ho3.mono ?_).chg hC38 (fun q hq e => ?_)⟩
      · have := h.below.size; omega
      · have := hn3 q hq; omega
  · rw [List.pairwise_append]
    refine ⟨h.apart, by simp, fun z hz y hy q hq => ?_⟩
    simp only [List.mem_singleton] at hy
    subst hy
    intro e
    have h1 := (hold z hz q hq).2.2
    have h2 := hn3 q e
    omega
set_option maxHeartbeats 4000000 in
theorem files_any {w : World} {p b ck : Nat} {S : Dk} {xs : List X} (h : DiskAt w p b S xs ck) (hu : lenX xs ≤ 1099511627776) (hc : xs.length ≤ 4398046511104) (hnm : ∀ x ∈ xs, x.nm.length ≤ 281474976710656) :
    Calls Try.prog 11 #[.pointer (some ⟨p, 0, none⟩)] w fun e w' => FilesP w xs e w' := by
  obtain ⟨c0, c1, c2, c3, c4⟩ := box5 h.box
  have hln := len_map h.map
  obtain ⟨i, z, hi, hz, hsz, hby, _⟩ := kindFv.info
  obtain ⟨wm, hmk, hom, hgm⟩ := run_make_own (P := Try.prog) w w.heap.size 36 39 i z 3 kindFv.under hi hz hsz .i64 .i64 xs.length (by rw [hby]; omega) (by simp only [maxLen]; omega) (Nat.le_refl _)
  have hBm : Below w.heap.size w wm := below_grown hgm (fun k hk => by cases hk) (Nat.le_refl _)
  have hDm := h.below hBm
  have e1 := (box5 hDm.box).2.1
  obtain ⟨hrun, hrg⟩ := range_start hDm.map
  have HH : Hid (DiskAt w p b S xs ck ∧ lenX xs ≤ 1099511627776 ∧ xs.length ≤ 4398046511104 ∧ (∀ x ∈ xs, x.nm.length ≤ 281474976710656) ∧ w.heap.size ≤ wm.heap.size) := ⟨h, hu, hc, hnm, hBm.size⟩
  have HS : Hid (Coll w (wm.alloc (.mapIter (some b) ck #[] ck)) wm.heap.size b ck xs w.heap.size xs.length []) := by
    refine ⟨by simp, by simp, hrg, hBm.alloc hBm.size _, ?_, by simp, by simp⟩
    have : OwnF fvV 3 39 wm w.heap.size (.slice (some ⟨w.heap.size, 0, none⟩) 0 xs.length) ([] : List Fv) := hom
    exact this.below ((Below.refl _ _).alloc (Nat.le_refl _) _)
  clear h hu hc hnm hrg c0 c2 c3 c4 hom hgm hBm hDm hi hz hsz hby
  go_enter Try.func11, Try.ntmps11
  go_wp2_with fail
  go_loopw [3] (fun v wr => ∃ (g cap : Nat) (zs : List (Fv × X)), v = .slice (some ⟨g, 0, none⟩) zs.length cap ∧ Hid (Coll w wr wm.heap.size b ck xs g cap zs)) (fun _ wr => match wr.heap[wm.heap.size]? with | some (.mapIter _ _ seen _) => xs.length - seen.size | _ => 0)
  case atStart => exact ⟨w.heap.size, xs.length, [], rfl, HS.out⟩
  case round =>
    obtain ⟨g, cap, zs, rfl, hcl⟩ := hrel
    have hDr := HH.out.1.below hcl.out.below
    rcases next_step hDr.map hcl.out.rng with ⟨hall, hnx⟩ | ⟨x, hx, hnew, W1, hnx, hrg1, hC1, hs1, hen⟩
    · have HSO : Hid (Calls Try.prog 29 #[.slice (some ⟨g, 0, none⟩) zs.length cap, .func (.func 30) #[] #[]] wr fun e w' => e = .returned (.tuple #[]) ∧ ∃ k : List Fv, k.Perm (zs.map (·.1)) ∧ Rises k ∧ Rw fvV 3 w' (some ⟨g, 0, none⟩) zs.length zs.length k ∧ Chg (fun q => q = g) wr w' ∧ ∃ cs, w'.heap[g]? = some (.cells cs 39)) := sortFv hcl.out.own (by
        have := (all_met hcl.out.sub hcl.out.nod HH.out.1.map.born hall).length_eq
        rw [List.length_map] at this
        have := HH.out.2.2.1
        omega)
      have HAL : Hid (∀ x ∈ xs, x.born ∈ (zs.map (·.2)).map (·.born)) := hall
      clear hall hDr
      go_wp2_with fail
      refine HSO.out.mono ?_
      rintro e w9 ⟨rfl, k, hp, hri, hrw, hC, hcs⟩
      have HE : Hid (FilesP w xs (.returned (.slice (some ⟨g, 0, none⟩) zs.length cap)) w9) := hcl.out.ends HH.out.1.map HAL.out hp hri hrw hC hcs
      clear hp hri hrw hC hcs HSO HAL
      go_wp2_with fail
      go_ret
      exact HE.out
    · have hsz := hcl.out.below.size
      have hB1 : Below w.heap.size w W1 := hcl.out.below.trans (hC1.below (fun q e => by have := HH.out.2.2.2.2; omega) hsz)
      have hD1 := HH.out.1.below hB1
      have hF1 := hD1.file x hx
      obtain ⟨d0, d1⟩ := box2 hF1.box
      obtain ⟨va, vc, hv, h1, h2, hrw⟩ := own_shape hF1.own
      rw [hv] at d0
      have hxl := lenX_mem hx
      have hlu := HH.out.2.1
      have hxb : x.bs.length ≤ 1099511627776 := by omega
      have hlt1 := hF1.lt
      have HC : Hid (∀ w, Calls Try.prog 28 #[.string ⟨x.nm.toArray⟩] w fun e w' => e = .returned (.string ⟨x.nm.toArray⟩) ∧ Below w.heap.size w w') := clone_run x.nm (HH.out.2.2.2.1 x hx)
      have HB : Hid (∀ W, Below W1.heap.size W1 W → Calls Try.prog 27 #[.slice va x.bs.length vc] W fun e w' => ∃ a' cap', e = .returned (.slice a' x.bs.length cap') ∧ OwnF byU 1 5 w' W.heap.size (.slice a' x.bs.length cap') x.bs ∧ Below W.heap.size W w') := fun W hW => cloneU (hrw.below hW) hxb
      have hlen9 : zs.length + 1 ≤ xs.length := by
        obtain ⟨us, hus⟩ := left_perm (sub_snoc hcl.out.sub hx) (nodup_snoc hcl.out.nod hnew)
        have := hus.length_eq
        simp at this
        omega
      have hgr : ∃ s c, wr.heap[wm.heap.size]? = some (.mapIter (some b) s ((zs.map (·.2)).map (·.born)).toArray c) := by
        obtain ⟨s, c, e, _⟩ := hcl.out.rng.iter
        exact ⟨s, c, e⟩
      have hown1 : OwnF fvV 3 39 W1 w.heap.size (.slice (some ⟨g, 0, none⟩) zs.length cap) (zs.map (·.1)) := hcl.out.own.chg hC1 (fun q hq e => by
        obtain ⟨cg, hcg⟩ := own_blockF hcl.out.own hq
        obtain ⟨s, c, e2⟩ := hgr
        rw [e, e2] at hcg
        cases hcg)
      have hl1 : (zs.map (·.1)).length = zs.length := List.length_map ..
      have HX : Hid (x.q < W1.heap.size ∧ OwnF fvV 3 39 W1 w.heap.size (.slice (some ⟨g, 0, none⟩) zs.length cap) (zs.map (·.1)) ∧ w.heap.size ≤ W1.heap.size ∧ ((zs.map (·.1)).length + 1 + ((zs.map (·.1)).length + 1) / 4 + 192) * 48 ≤ 281474976710656 ∧ (zs.map (·.1)).length + 1 ≤ 9223372036854775807) := ⟨hlt1, hown1, hB1.size, by have := HH.out.2.2.1; omega, by have := HH.out.2.2.1; omega⟩
      have HQ : Hid (∀ w3 w8 : World, Below W1.heap.size W1 w3 → Keeps w3 w8 (.slice (some ⟨g, 0, none⟩) zs.length cap) → ∀ i : Nat, w8.cell? ⟨x.q, i, none⟩ = W1.cell? ⟨x.q, i, none⟩) := fun w3 w8 hb hk i => by
        have e1 := hb.cell (p := ⟨x.q, i, none⟩) hlt1
        have e2 := hk x.q (Nat.lt_of_lt_of_le hlt1 hb.size) (fun e => by
          obtain ⟨cg, hcg⟩ := own_blockF hown1 e
          rw [hF1.box] at hcg
          simp at hcg)
        rw [← e1]
        unfold World.cell?
        rw [e2]
      have HN : Hid (x ∈ xs ∧ x.born ∉ (zs.map (·.2)).map (·.born) ∧ RngAt W1 wm.heap.size b xs (zs.map (·.2) ++ [x]) ck ∧ Chg (fun q => q = wm.heap.size) wr W1 ∧ zs.length + 1 ≤ xs.length ∧ W1.heap.size = wr.heap.size) := ⟨hx, hnew, hrg1, hC1, hlen9, hs1⟩
      clear hx hnew hrg1 hC1 hlen9 hl1 hown1 hgr hlt1 hxb hxl hlu hv h1 h2 hrw hF1 hD1 hB1 hsz hDr hs1
      go_wp2_with fail
      refine wp_region_held_drew (S := (fun W => ∀ i : Nat, W.cell? ⟨x.q, i, none⟩ = W1.cell? ⟨x.q, i, none⟩)) (by kernel_rfl) ?hS1 (fun hHeld => ?rest1)
      case hS1 => (intro i; rfl)
      refine takeD (i := 0) (d := some 22) (v := ?vT2) rfl rfl (by kernel_rfl) (by kernel_rfl) (by kernel_rfl) (fun _ _ _ h => h) (Or.inl ⟨by rfl, ?hyT2⟩) (by assumption) ?rstT2
      case hyT2 => (intro w hSw; (try dsimp only at hSw); go_simp; (try with_reducible rfl))
      try simp only [Act.put, List.setIfInBounds_toArray, List.set_cons_zero, List.set_cons_succ]
      refine takeD (i := 1) (d := some 23) (v := ?vT3) rfl rfl (by kernel_rfl) (by kernel_rfl) (by kernel_rfl) (fun _ _ _ h => h) (Or.inl ⟨by rfl, ?hyT3⟩) (by assumption) ?rstT3
      case hyT3 => (intro w hSw; (try dsimp only at hSw); go_simp; (try with_reducible rfl))
      try simp only [Act.put, List.setIfInBounds_toArray, List.set_cons_zero, List.set_cons_succ]
      refine takeD (i := 3) (d := some 25) (v := ?vT4) rfl rfl (by kernel_rfl) (by kernel_rfl) (by kernel_rfl) (fun _ _ _ h => h) (Or.inl ⟨by rfl, ?hyT4⟩) (by assumption) ?rstT4
      case hyT4 => (intro w hSw; (try dsimp only at hSw); go_simp; (try with_reducible rfl))
      try simp only [Act.put, List.setIfInBounds_toArray, List.set_cons_zero, List.set_cons_succ]
      refine takeD (i := 4) (d := some 26) (v := ?vT5) rfl rfl (by kernel_rfl) (by kernel_rfl) (by kernel_rfl) (fun _ _ _ h => h) (Or.inl ⟨by rfl, ?hyT5⟩) (by assumption) ?rstT5
      case hyT5 => (intro w hSw; (try dsimp only at hSw); go_simp; (try with_reducible rfl))
      try simp only [Act.put, List.setIfInBounds_toArray, List.set_cons_zero, List.set_cons_succ]
      refine takeD (i := 5) (d := some 27) (v := ?vT6) rfl rfl (by kernel_rfl) (by kernel_rfl) (by kernel_rfl) (fun _ _ _ h => h) (Or.inl ⟨by rfl, ?hyT6⟩) (by assumption) ?rstT6
      case hyT6 => (intro w hSw; (try dsimp only at hSw); go_simp; (try with_reducible rfl))
      try simp only [Act.put, List.setIfInBounds_toArray, List.set_cons_zero, List.set_cons_succ]
      refine takeD (i := 6) (d := some 28) (v := ?vT7) rfl rfl (by kernel_rfl) (by kernel_rfl) (by kernel_rfl) (fun _ _ _ h => h) (Or.inl ⟨by rfl, ?hyT7⟩) (by assumption) ?rstT7
      case hyT7 => (intro w hSw; (try dsimp only at hSw); go_simp; (try with_reducible rfl))
      try simp only [Act.put, List.setIfInBounds_toArray, List.set_cons_zero, List.set_cons_succ]
      refine takeD (i := 8) (d := some 30) (v := ?vT8) rfl rfl (by kernel_rfl) (by kernel_rfl) (by kernel_rfl) (fun _ _ _ h => h) (Or.inl ⟨by rfl, ?hyT8⟩) (by assumption) ?rstT8
      case hyT8 => (intro w hSw; (try dsimp only at hSw); go_simp; (try with_reducible rfl))
      try simp only [Act.put, List.setIfInBounds_toArray, List.set_cons_zero, List.set_cons_succ]
      refine takeD (i := 9) (d := some 31) (v := ?vT9) rfl rfl (by kernel_rfl) (by kernel_rfl) (by kernel_rfl) (fun _ _ _ h => h) (Or.inl ⟨by rfl, ?hyT9⟩) (by assumption) ?rstT9
      case hyT9 => (intro w hSw; (try dsimp only at hSw); go_simp; (try with_reducible rfl))
      try simp only [Act.put, List.setIfInBounds_toArray, List.set_cons_zero, List.set_cons_succ]
      refine takeD (i := 10) (d := some 32) (v := ?vT10) rfl rfl (by kernel_rfl) (by kernel_rfl) (by kernel_rfl) (fun _ _ _ h => h) (Or.inl ⟨by rfl, ?hyT10⟩) (by assumption) ?rstT10
      case hyT10 => (intro w hSw; (try dsimp only at hSw); go_simp; (try with_reducible rfl))
      try simp only [Act.put, List.setIfInBounds_toArray, List.set_cons_zero, List.set_cons_succ]
      refine takeD (i := 11) (d := some 33) (v := ?vT11) rfl rfl (by kernel_rfl) (by kernel_rfl) (by kernel_rfl) (fun _ _ _ h => h) (Or.inl ⟨by rfl, ?hyT11⟩) (by assumption) ?rstT11
      case hyT11 => (intro w hSw; (try dsimp only at hSw); go_simp; (try with_reducible rfl))
      try simp only [Act.put, List.setIfInBounds_toArray, List.set_cons_zero, List.set_cons_succ]
      refine wpAnyH_ready (rs := [2]) (by kernel_rfl) (by simp) ?_
      refine AllReadyH.cons rfl (fun K hK => ?_) AllReadyH.nil
      go_simp
      refine (HC.out _).mono ?_
      rintro e2 w2 ⟨rfl, hb2⟩
      have hcur : Below W1.heap.size W1 w2 := (below_drewN (Below.refl _ _) 1).trans hb2
      clear hb2
      clear hHeld
      refine hK.out _ _ ?hS12 (fun hHeld => ?rest12)
      case hS12 => (intro i; exact hcur.cell (p := ⟨x.q, i, none⟩) HX.out.1)
      clear hK K
      try simp only [Act.put, List.setIfInBounds_toArray, List.set_cons_zero, List.set_cons_succ]
      refine wpAnyH_ready (rs := [7]) (by kernel_rfl) (by simp) ?_
      refine AllReadyH.cons rfl (fun K hK => ?_) AllReadyH.nil
      go_simp
      refine (HB.out _ hcur).mono ?_
      rintro e3 w3 ⟨a3, cap3, rfl, ho3, hb3⟩
      have hcur3 : Below W1.heap.size W1 w3 := hcur.trans (hb3.mono hcur.size)
      have hsz2 := hcur.size
      clear hb3
      clear hHeld
      refine hK.out _ _ ?hS13 (fun hHeld => ?rest13)
      case hS13 => (intro i; exact hcur3.cell (p := ⟨x.q, i, none⟩) HX.out.1)
      clear hK K
      try simp only [Act.put, List.setIfInBounds_toArray, List.set_cons_zero, List.set_cons_succ]
      refine takeD (i := 12) (d := some 34) (v := ?vT14) rfl rfl (by kernel_rfl) (by kernel_rfl) (by kernel_rfl) (fun _ _ _ h => h) (Or.inl ⟨by rfl, ?hyT14⟩) (by assumption) ?rstT14
      case hyT14 => (intro w hSw; (try dsimp only at hSw); go_simp; (try with_reducible rfl))
      try simp only [Act.put, List.setIfInBounds_toArray, List.set_cons_zero, List.set_cons_succ]
      refine wpAnyH_ready (rs := [13]) (by kernel_rfl) (by simp) ?_
      refine AllReadyH.cons rfl (fun K hK => ?_) AllReadyH.nil
      obtain ⟨g8, cap8, w8, hr8, ho8, hb8, hk8, hs8, hat8⟩ := appendF_wide kindFv layFv (HX.out.2.1.below hcur3) (Nat.le_trans HX.out.2.2.1 hcur3.size) (⟨x.nm, a3, x.bs.length, cap3, x.syn⟩ : Fv) #[.string ⟨x.nm.toArray⟩, .slice a3 x.bs.length cap3, .int .i64 (x.syn : Int)] rfl 39 HX.out.2.2.2.1 HX.out.2.2.2.2 36
      go_simp
      clear hHeld
      refine hK.out _ _ ?hS15 (fun hHeld => ?rest15)
      case hS15 => (intro i; exact (hcur3.alloc hcur3.size _).cell (p := ⟨x.q, i, none⟩) HX.out.1)
      clear hK K
      try simp only [Act.put, List.setIfInBounds_toArray, List.set_cons_zero, List.set_cons_succ]
      refine wpAnyH_ready (rs := [14]) (by kernel_rfl) (by simp) ?_
      refine AllReadyH.cons rfl (fun K hK => ?_) AllReadyH.nil
      rw [if_pos (by rfl)]
      refine wp_append_hr (.tmp 22) (.tmp 35) 36 (some 36) rfl rfl _ _ rfl rfl hr8 ?_
      clear hHeld
      refine hK.out _ _ ?hS16 (fun hHeld => ?rest16)
      case hS16 => (intro i; exact HQ.out w3 w8 hcur3 hk8 i)
      clear hK K
      try simp only [Act.put, List.setIfInBounds_toArray, List.set_cons_zero, List.set_cons_succ]
      refine takeD (i := 15) (d := some 3) (v := ?vT17) rfl rfl (by kernel_rfl) (by kernel_rfl) (by kernel_rfl) (fun _ _ _ h => h) (Or.inl ⟨by rfl, ?hyT17⟩) (by assumption) ?rstT17
      case hyT17 => (intro w hSw; (try dsimp only at hSw); go_simp; (try with_reducible rfl))
      try simp only [Act.put, List.setIfInBounds_toArray, List.set_cons_zero, List.set_cons_succ]
      refine wpAnyH_done (by kernel_rfl) ?_ _
      go_wp2_with fail
      have hl1 : (zs.map (·.1)).length = zs.length := List.length_map ..
      have hst := hcl.out.step HN.out.1 HN.out.2.1 HN.out.2.2.1 HN.out.2.2.2.1 HH.out.2.2.2.2 hcur3 ⟨_, by have := HN.out.2.2.2.2.2; omega, ho3⟩ ho8 hb8 hk8
      have HST : Hid (Coll w w8 wm.heap.size b ck xs g8 cap8 (zs ++ [(⟨x.nm, a3, x.bs.length, cap3, x.syn⟩, x)])) := hst
      go_roundw
      case rel => exact ⟨g8, cap8, _, by simp, HST.out⟩
      case measure =>
        obtain ⟨s1, c1, e1, _⟩ := hcl.out.rng.iter
        obtain ⟨s2, c2, e2, _⟩ := HST.out.rng.iter
        have := HN.out.2.2.2.2.1
        simp only [e1, e2]
        simp
        omega
end Go.Proofs.Ytjcfeaekhefpfaa
