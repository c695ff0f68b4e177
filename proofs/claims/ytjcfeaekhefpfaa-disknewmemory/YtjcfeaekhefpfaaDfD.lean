import Derived.Test.YtjcfeaekhefpfaaDfC
/-! Load. -/
namespace Go.Proofs.Ytjcfeaekhefpfaa
open Go.RowKit Go.Lib Go.Sort Go.Shelf
set_option maxRecDepth 100000

/-- Load behind k files that are entered -/
structure L1 (w wr : World) (p b lim : Nat) (fs : List Fl) (k : Nat) (xs : List X) (ck : Nat) : Prop where
  ld : LdAt wr p b lim xs ck
  len : xs.length = k
  hd : ∀ (j : Nat) (x : X) (f : Fl), xs[j]? = some x → fs[j]? = some f → x.nm = f.nm ∧ x.syn = f.syn
  ge : ∀ g, Blk p b xs g → w.heap.size ≤ g
  below : Below w.heap.size w wr
theorem L1.grow {w wr W' : World} {p b lim : Nat} {fs : List Fl} {k : Nat} {xs : List X} {ck : Nat} (h : L1 w wr p b lim fs k xs ck) (hb : Below wr.heap.size wr W') : L1 w W' p b lim fs k xs ck := ⟨h.ld.below hb, h.len, h.hd, h.ge, h.below.trans (hb.mono h.below.size)⟩
theorem L1.next {w V W' : World} {p b lim q : Nat} {fs : List Fl} {k : Nat} {xs : List X} {ck : Nat} (h : L1 w V p b lim fs k xs ck) {f : Fl} (hf : fs[k]? = some f) {y : Nat} (hy : y = f.syn) (hq : V.heap.size ≤ q) (hl : LdAt W' p b lim (xs ++ [⟨f.nm, q, ck, .slice none 0 0, [], y⟩]) (ck + 1)) (hC : Chg (fun g => g = b) V W') : L1 w W' p b lim fs (k + 1) (xs ++ [⟨f.nm, q, ck, .slice none 0 0, [], y⟩]) (ck + 1) := by
  refine ⟨hl, by rw [List.length_append, h.len]; rfl, fun j x f' hx hf' => ?_, fun g hg => ?_, h.below.trans (hC.below (fun g e => by rw [e]; exact h.ge b (.inr (.inl rfl))) h.below.size)⟩
  · by_cases hj : j < xs.length
    · rw [List.getElem?_append_left hj] at hx
      exact h.hd j x f' hx hf'
    · have h1 := (List.getElem?_eq_some_iff.1 hx).1
      rw [List.length_append, List.length_singleton] at h1
      obtain rfl : j = xs.length := by omega
      rw [List.getElem?_append_right (Nat.le_refl _), Nat.sub_self] at hx
      simp only [List.getElem?_cons_zero, Option.some.injEq] at hx
      subst hx
      rw [h.len, hf] at hf'
      cases hf'
      exact ⟨rfl, hy⟩
  · rcases hg with e | e | ⟨x, hx, e⟩
    · exact h.ge g (.inl e)
    · exact h.ge g (.inr (.inl e))
    · rcases List.mem_append.1 hx with hx | hx
      · exact h.ge g (.inr (.inr ⟨x, hx, e⟩))
      · simp at hx
        subst hx
        rcases e with e | e
        · have := h.below.size
          simp only at e
          omega
        · simp [Value.ownBlock] at e
/-- what a list of files must be so that it loads -/
structure Loads (fs : List Fl) (lim : Nat) : Prop where
  ok : ∀ f ∈ fs, nameOk f.nm = true
  nd : (fs.map (·.nm)).Nodup
  syn : ∀ f ∈ fs, f.syn ≤ f.bs.length
  use : used fs ≤ lim
theorem nameOk_len {l : List UInt8} (h : nameOk l = true) : l.length ≤ 32 := by
  unfold nameOk at h
  simp only [Bool.and_eq_true, decide_eq_true_eq] at h
  exact h.1.2
theorem L1.fresh {w wr : World} {p b lim : Nat} {fs : List Fl} {k : Nat} {xs : List X} {ck : Nat} (h : L1 w wr p b lim fs k xs ck) (hn : (fs.map (·.nm)).Nodup) {f : Fl} (hf : fs[k]? = some f) : ∀ y ∈ xs, y.nm ≠ f.nm := by
  intro y hy e
  obtain ⟨j, hj, rfl⟩ := List.getElem_of_mem hy
  have hlk := (List.getElem?_eq_some_iff.1 hf).1
  have hjk : j < k := by rw [← h.len]; exact hj
  have h1 := (h.hd j _ fs[j] (List.getElem?_eq_getElem hj) (List.getElem?_eq_getElem (by omega))).1
  have h2 : (fs.map (·.nm))[j]? = (fs.map (·.nm))[k]? := by
    rw [List.getElem?_map, List.getElem?_map, hf, List.getElem?_eq_getElem (by omega)]
    simp only [Option.map_some, Option.some.injEq]
    rw [← h1, e]
  have := (List.getElem?_inj (by rw [List.length_map]; omega) hn).1 h2
  omega
theorem sumV_used {w : World} {vs : List Fv} {fs : List Fl} (hl : vs.length = fs.length) (h : ∀ (i : Nat) v, vs[i]? = some v → ∃ f, fs[i]? = some f ∧ FlOk w v f) : sumV vs = used fs := by
  unfold sumV used
  congr 1
  refine List.ext_getElem? (fun i => ?_)
  rw [List.getElem?_map, List.getElem?_map]
  cases e : vs[i]? with
  | none =>
    have : fs[i]? = none := by rw [List.getElem?_eq_none_iff] at e ⊢; omega
    rw [this]
    rfl
  | some v =>
    obtain ⟨f, hf, hfo⟩ := h i v e
    rw [hf]
    simp [hfo.n]
theorem sumV_mem {vs : List Fv} {v : Fv} (h : v ∈ vs) : v.n ≤ sumV vs := by
  obtain ⟨s, t, rfl⟩ := List.append_of_mem h
  simp [sumV]
  omega
theorem LdAt.upd {W W' : World} {p b ck lim : Nat} {l r : List X} {x x' : X} (h : LdAt W p b lim (l ++ x :: r) ck) (hC : Chg (fun g => g = x.q) W W') (hF : FileL W' x') (hn : x'.nm = x.nm) (hq : x'.q = x.q) (hb : x'.born = x.born)
    (hv : ∀ g, x'.v.ownBlock = some g → ¬ Blk p b (l ++ x :: r) g) : LdAt W' p b lim (l ++ x' :: r) ck := by
  have hx : x ∈ l ++ x :: r := by simp
  have hm : ∀ y, y ∈ l ∨ y ∈ r → y ∈ l ++ x :: r := fun y hy => by rcases hy with hy | hy <;> simp [hy]
  refine ⟨hC.block h.box (fun e => ?_), ⟨?_, ?_, ?_, ?_⟩, ?_, ?_, ?_⟩
  · have h1 := h.box
    rw [e, (h.file x hx).box] at h1
    simp at h1
  · have := hC.block h.map.heap (fun e => h.b_ne_q hx e)
    rw [this]
    simp [mkE, hn, hq, hb]
  · intro y hy
    rcases List.mem_append.1 hy with hy | hy
    · exact h.map.lt y (hm y (.inl hy))
    · rcases List.mem_cons.1 hy with rfl | hy
      · rw [hb]; exact h.map.lt x hx
      · exact h.map.lt y (hm y (.inr hy))
  · have := h.map.born
    simp only [List.map_append, List.map_cons, hb] at this ⊢
    exact this
  · have := h.map.nm
    simp only [List.map_append, List.map_cons, hn] at this ⊢
    exact this
  · intro y hy
    have hk : ∀ y, y ∈ l ∨ y ∈ r → FileL W' y := fun y hy => ⟨hC.block (h.file y (hm y hy)).box (fun e => nodup_apart h.qs hy e), (h.file y (hm y hy)).own.chg hC (fun g hg e => by
      obtain ⟨cur, hh⟩ := own_block (h.file y (hm y hy)).own hg
      have h1 := (h.file x hx).box
      rw [← e, hh] at h1
      simp at h1)⟩
    rcases List.mem_append.1 hy with hy | hy
    · exact hk y (.inl hy)
    · rcases List.mem_cons.1 hy with rfl | hy
      · exact hF
      · exact hk y (.inr hy)
  · have := h.qs
    simp only [List.map_append, List.map_cons, hq] at this ⊢
    exact this
  · have hg := h.gs
    rw [List.pairwise_append, List.pairwise_cons] at hg ⊢
    refine ⟨hg.1, ⟨fun y hy g hg1 hg2 => hv g hg1 (.inr (.inr ⟨y, hm y (.inr hy), .inr hg2⟩)), hg.2.1.2⟩, fun y hy z hz g hg1 hg2 => ?_⟩
    rcases List.mem_cons.1 hz with rfl | hz
    · exact hv g hg2 (.inr (.inr ⟨y, hm y (.inl hy), .inr hg1⟩))
    · exact hg.2.2 y hy z (List.mem_cons_of_mem _ hz) g hg1 hg2
theorem splitX {xs : List X} {j : Nat} (h : j < xs.length) : ∃ l x r, xs = l ++ x :: r ∧ l.length = j := ⟨xs.take j, xs[j], xs.drop (j + 1), by rw [← List.drop_eq_getElem_cons h, List.take_append_drop], by rw [List.length_take]; omega⟩
/-- a file's bytes put in -/
theorem L1.fill {w W : World} {p b lim : Nat} {fs : List Fl} {k : Nat} {l r : List X} {x : X} {ck B : Nat} (h : L1 w W p b lim fs k (l ++ x :: r) ck) {f : Fl} {v' : Value} (ho : OwnF byU 1 5 W B v' f.bs) (hfr : ∀ g, v'.ownBlock = some g → ¬ Blk p b (l ++ x :: r) g) (hge : ∀ g, v'.ownBlock = some g → w.heap.size ≤ g) :
    L1 w (W.setCell ⟨x.q, 0, none⟩ v') p b lim fs k (l ++ { x with v := v', bs := f.bs } :: r) ck := by
    have hx : x ∈ l ++ x :: r := by simp
    have hC : Chg (fun g => g = x.q) W (W.setCell ⟨x.q, 0, none⟩ v') := Chg.set (D := fun g => g = x.q) (q := x.q) 0 W v' rfl
    have hbox := heap_setCell_cells (h.ld.file x hx).box 0 v'
    have hF : FileL (W.setCell ⟨x.q, 0, none⟩ v') { x with v := v', bs := f.bs } := ⟨hbox, (ho.mono (Nat.zero_le _)).chg hC (fun g hg e => hfr g hg (.inr (.inr ⟨x, hx, .inl e⟩)))⟩
    refine ⟨h.ld.upd hC hF rfl rfl rfl hfr, by have := h.len; simp only [List.length_append, List.length_cons] at this ⊢; exact this, fun j y f' hy hf' => ?_, fun g hg => ?_, h.below.trans (hC.below (fun g e => by rw [e]; exact h.ge _ (.inr (.inr ⟨x, hx, .inl rfl⟩))) h.below.size)⟩
    · by_cases hj : j = l.length
      · subst hj
        rw [List.getElem?_append_right (Nat.le_refl _), Nat.sub_self] at hy
        simp only [List.getElem?_cons_zero, Option.some.injEq] at hy
        subst hy
        exact h.hd l.length x f' (by rw [List.getElem?_append_right (Nat.le_refl _), Nat.sub_self]; rfl) hf'
      · refine h.hd j y f' ?_ hf'
        by_cases hj2 : j < l.length
        · rw [List.getElem?_append_left hj2] at hy ⊢
          exact hy
        · rw [List.getElem?_append_right (by omega)] at hy ⊢
          obtain ⟨m, hm⟩ : ∃ m, j - l.length = m + 1 := ⟨j - l.length - 1, by omega⟩
          rw [hm, List.getElem?_cons_succ] at hy ⊢
          exact hy
    · rcases hg with e | e | ⟨y, hy, e⟩
      · exact h.ge g (.inl e)
      · exact h.ge g (.inr (.inl e))
      · rcases List.mem_append.1 hy with hy | hy
        · exact h.ge g (.inr (.inr ⟨y, by simp [hy], e⟩))
        · rcases List.mem_cons.1 hy with rfl | hy
          · rcases e with e | e
            · exact h.ge g (.inr (.inr ⟨x, hx, .inl e⟩))
            · exact hge g e
          · exact h.ge g (.inr (.inr ⟨y, by simp [hy], e⟩))
theorem fill_done {fs : List Fl} {l r : List X} {x : X} {f : Fl} {v' : Value} (hf : fs[l.length]? = some f) (hdone : ∀ (i : Nat) (y : X) (f : Fl), i < l.length → (l ++ x :: r)[i]? = some y → fs[i]? = some f → y.bs = f.bs) : ∀ (i : Nat) (y : X) (f' : Fl), i < l.length + 1 → (l ++ { x with v := v', bs := f.bs } :: r)[i]? = some y → fs[i]? = some f' → y.bs = f'.bs := by
  intro i y f' hi hy hf'
  by_cases h : i < l.length
  · rw [List.getElem?_append_left h] at hy
    exact hdone i y f' h (by rw [List.getElem?_append_left h]; exact hy) hf'
  · obtain rfl : i = l.length := by omega
    rw [List.getElem?_append_right (Nat.le_refl _), Nat.sub_self] at hy
    simp only [List.getElem?_cons_zero, Option.some.injEq] at hy
    rw [hf] at hf'
    cases hf'
    rw [← hy]
/-- all files loaded -/
theorem L1.all {w W : World} {p b lim : Nat} {fs : List Fl} {k : Nat} {xs : List X} {ck : Nat} (h : L1 w W p b lim fs k xs ck) (hk : k = fs.length) (hdone : ∀ (i : Nat) (y : X) (f : Fl), i < k → xs[i]? = some y → fs[i]? = some f → y.bs = f.bs) (hL : Loads fs lim) : DiskAt W p b ⟨lim, fs, false, 0, 0⟩ xs ck := by
  have hl := h.len
  have hj : ∀ (i : Nat) (hi : i < xs.length), ∃ f, fs[i]? = some f ∧ xs[i].fl = f := fun i hi => by
    have h2 : fs[i]? = some fs[i] := List.getElem?_eq_getElem (by omega)
    have h3 := h.hd i xs[i] fs[i] (List.getElem?_eq_getElem hi) h2
    have h4 := hdone i xs[i] fs[i] (by omega) (List.getElem?_eq_getElem hi) h2
    refine ⟨fs[i], h2, ?_⟩
    show (⟨xs[i].nm, xs[i].bs, xs[i].syn⟩ : Fl) = fs[i]
    rw [h3.1, h3.2, h4]
  have hfs : xs.map X.fl = fs := by
    refine List.ext_getElem? (fun i => ?_)
    rw [List.getElem?_map]
    by_cases hi : i < xs.length
    · obtain ⟨f, h1, h2⟩ := hj i hi
      rw [List.getElem?_eq_getElem hi, h1, ← h2]
      rfl
    · rw [List.getElem?_eq_none_iff.2 (by omega), List.getElem?_eq_none_iff.2 (by omega)]
      rfl
  have hd := h.ld.disk (fun x hx => by
    have h1 : x.fl ∈ fs := by rw [← hfs]; exact List.mem_map.2 ⟨x, hx, rfl⟩
    exact hL.syn _ h1)
  rw [hfs] at hd
  exact hd
set_option maxHeartbeats 4000000 in
theorem load_ok {w : World} {a : Option Addr} {n c : Nat} {vs : List Fv} {fs : List Fl} (h : Rw fvV 3 w a n c vs) (hn : n ≤ 4398046511104) (hlen : vs.length = fs.length) (hfl : ∀ (i : Nat) v f, vs[i]? = some v → fs[i]? = some f → FlOk w v f) {lim : Nat} (hl : lim ≤ 1099511627776) (hL : Loads fs lim) :
    Calls Try.prog 15 #[.int .i64 (lim : Int), .slice a n c] w fun e w' => ∃ p b xs ck, e = .returned (.tuple #[.pointer (some ⟨p, 0, none⟩), .int .i64 0]) ∧ DiskAt w' p b ⟨lim, fs, false, 0, 0⟩ xs ck ∧ (∀ g, Blk p b xs g → w.heap.size ≤ g) ∧ Below w.heap.size w w' := by
  have HR : Hid (Rw fvV 3 w a n c vs ∧ n ≤ 4398046511104) := ⟨h, hn⟩
  have HF : Hid (vs.length = fs.length ∧ (∀ (i : Nat) v, vs[i]? = some v → ∃ f, fs[i]? = some f ∧ FlOk w v f) ∧ Loads fs lim) := ⟨hlen, fun i v hv => by
    have h1 := (List.getElem?_eq_some_iff.1 hv).1
    exact ⟨fs[i], List.getElem?_eq_getElem (by omega), hfl i v _ hv (List.getElem?_eq_getElem (by omega))⟩, hL⟩
  have HL : Hid (lim ≤ 1099511627776) := hl
  have hnc : (n : Int) ≤ 4398046511104 := by omega
  clear h hn hlen hfl hL hl
  go_enter Try.func15, Try.ntmps15
  go_wp2_with fail
  refine (diskNew_any lim HL.out w).mono ?_
  rintro e w1 ⟨rfl, hD, hb1⟩
  obtain ⟨p, hp⟩ : ∃ p, w.heap.size + 1 = p := ⟨_, rfl⟩
  have hge : ∀ g, Blk (w.heap.size + 1) w.heap.size [] g → w.heap.size ≤ g := fun g hg => by
    rcases hg with h | h | ⟨x, hx, _⟩
    · omega
    · omega
    · simp at hx
  rw [hp] at hD hge ⊢
  have H1 : Hid (L1 w w1 p w.heap.size lim fs 0 [] 0) := ⟨hD.ld, rfl, fun j x f hx => by simp at hx, hge, hb1⟩
  clear hD hb1 hge hp
  go_wp2_with fail
  go_loopw [23] (fun vi wr => ∃ k : Nat, k ≤ n ∧ vi = .int .i64 (k : Int) ∧ ∃ (xs : List X) (ck : Nat), Hid (L1 w wr p w.heap.size lim fs k xs ck)) (fun vi _ => n - (RowKit.intOf vi).toNat)
  case atStart => exact ⟨0, Nat.zero_le _, rfl, [], 0, H1.out⟩
  case round =>
    obtain ⟨wo, hwo⟩ : ∃ wo, wo = wr := ⟨_, rfl⟩
    subst hwo
    obtain ⟨k, hk, rfl, xs, ck, hS⟩ := hrel
    by_cases hlt : k < n
    · have hlt2 : (k : Int) < (n : Int) := by omega
      obtain ⟨g, off, v, ha, hg, hv, hcell⟩ := (HR.out.1.below hS.out.below).at k hlt
      subst ha
      have o0 := hcell 0 _ rfl
      have o1 := hcell 1 _ rfl
      have o2 := hcell 2 _ rfl
      rw [Nat.add_zero] at o0
      obtain ⟨f, hf, hfo⟩ := HF.out.2.1 k v hv
      obtain ⟨V, V2, hV, hV2, hVh, hh, hb⟩ := fbox wo ⟨v.nm.toArray⟩ v.a v.n v.cap (v.syn : Int)
      obtain ⟨z0, z1, z2⟩ := box3 hVh
      have k0 := Lib.frozen_of_heap hVh 0
      have k1 := Lib.frozen_of_heap hVh 1
      have k2 := Lib.frozen_of_heap hVh 2
      obtain ⟨e0, e1, e2⟩ := box3 hh
      have gi : IntKind.i64.wrap ((k : Int) + 1) = ((k + 1 : Nat) : Int) := by rw [IntWalk.i64_in _ (by omega)]; omega
      have HB : Hid (L1 w V2 p w.heap.size lim fs k xs ck ∧ fs[k]? = some f ∧ FlOk w v f) := ⟨hS.out.grow hb, hf, hfo⟩
      clear hcell hv hVh hh hb hg hf hfo
      go_wp2_with fail
      have hnm : nameOk v.nm = true := by rw [HB.out.2.2.nm]; exact HF.out.2.2.ok f (List.mem_of_getElem? HB.out.2.1)
      have hvs : v.syn ≤ v.n := by rw [HB.out.2.2.syn, HB.out.2.2.n]; exact HF.out.2.2.syn f (List.mem_of_getElem? HB.out.2.1)
      refine (enter_ok HB.out.1.ld hnm (Nat.le_trans (nameOk_len hnm) (by omega)) (by rw [HB.out.2.2.nm]; exact HB.out.1.fresh HF.out.2.2.nd HB.out.2.1) v.a v.n v.cap v.syn hvs).mono ?_
      rintro e w5 ⟨rfl, q, hq, hld, hC⟩
      rw [HB.out.2.2.nm] at hld
      have HN : Hid (L1 w w5 p w.heap.size lim fs (k + 1) _ (ck + 1)) := HB.out.1.next HB.out.2.1 HB.out.2.2.syn hq hld hC
      clear hq hld hC hnm hvs
      go_wp2_with fail
      go_roundw
      case rel => exact ⟨k + 1, by omega, by first | rfl | go_num, _, _, HN.out⟩
      case measure => simp [RowKit.intOf]; omega
    · obtain rfl : k = n := by omega
      have hlt2 : ¬ ((k : Int) < (k : Int)) := by omega
      go_wp2_with fail
      have hsv : sumV vs ≤ lim := by rw [sumV_used HF.out.1 HF.out.2.1]; exact HF.out.2.2.use
      refine (fit_any (HR.out.1.below hS.out.below) HR.out.2 (fun v hv => by have := sumV_mem hv; have := HL.out; omega) lim HL.out).mono ?_
      rintro e w6 ⟨rfl, hb6⟩
      rw [decide_eq_true hsv]
      have H2 : Hid (L1 w w6 p w.heap.size lim fs k xs ck ∧ sumV vs ≤ lim) := ⟨hS.out.grow hb6, hsv⟩
      clear hsv hb6
      go_wp2_with fail
      go_loopw [40] (fun vi wr => ∃ j : Nat, j ≤ k ∧ vi = .int .i64 (j : Int) ∧ ∃ xs : List X, Hid (L1 w wr p w.heap.size lim fs k xs ck ∧ ∀ (i : Nat) (x : X) (f : Fl), i < j → xs[i]? = some x → fs[i]? = some f → x.bs = f.bs)) (fun vi _ => k - (RowKit.intOf vi).toNat)
      case atStart => exact ⟨0, Nat.zero_le _, rfl, xs, H2.out.1, fun i x f h => by omega⟩
      case round =>
        obtain ⟨wq, hwq⟩ : ∃ wq, wq = wr := ⟨_, rfl⟩
        subst hwq
        obtain ⟨j, hj, rfl, ys, hT⟩ := hrel
        by_cases hlt : j < k
        · have hlt3 : (j : Int) < (k : Int) := by omega
          obtain ⟨g, off, v, ha, hg, hv, hcell⟩ := (HR.out.1.below hT.out.1.below).at j hlt
          subst ha
          have o0 := hcell 0 _ rfl
          have o1 := hcell 1 _ rfl
          have o2 := hcell 2 _ rfl
          rw [Nat.add_zero] at o0
          obtain ⟨f, hf, hfo⟩ := HF.out.2.1 j v hv
          obtain ⟨V, V2, hV, hV2, hVh, hh, hb⟩ := fbox wq ⟨v.nm.toArray⟩ v.a v.n v.cap (v.syn : Int)
          obtain ⟨z0, z1, z2⟩ := box3 hVh
          have k0 := Lib.frozen_of_heap hVh 0
          have k1 := Lib.frozen_of_heap hVh 1
          have k2 := Lib.frozen_of_heap hVh 2
          obtain ⟨e0, e1, e2⟩ := box3 hh
          have gi : IntKind.i64.wrap ((j : Int) + 1) = ((j + 1 : Nat) : Int) := by rw [IntWalk.i64_in _ (by omega)]; omega
          obtain ⟨l, x, r, rfl, hlj⟩ := splitX (xs := ys) (by rw [hT.out.1.len]; exact hlt)
          have hxj : (l ++ x :: r)[j]? = some x := by rw [← hlj, List.getElem?_append_right (Nat.le_refl _), Nat.sub_self]; rfl
          have hxn : x.nm = v.nm := ((hT.out.1.hd j x f hxj hf).1).trans hfo.nm.symm
          have hxl : ∀ y ∈ l, y.nm ≠ v.nm := fun y hy => by rw [← hxn]; exact nodup_apart hT.out.1.ld.map.nm (.inl hy)
          have hvl : v.n ≤ 1099511627776 := by have := sumV_mem (List.mem_of_getElem? hv); have := H2.out.2; have := HL.out; omega
          have hbV : Below w.heap.size w V2 := hT.out.1.below.trans (hb.mono hT.out.1.below.size)
          have HX : Hid (L1 w V2 p w.heap.size lim fs k (l ++ x :: r) ck ∧ l.length = j ∧ fs[j]? = some f ∧ (∀ (i : Nat) (y : X) (f : Fl), i < j → (l ++ x :: r)[i]? = some y → fs[i]? = some f → y.bs = f.bs) ∧ Below w.heap.size w V2 ∧ wq.heap.size < V2.heap.size ∧ ¬ (wq.heap.size = x.q) ∧ x.nm = v.nm ∧ ∀ y ∈ l, y.nm ≠ v.nm) :=
            ⟨hT.out.1.grow hb, hlj, hf, hT.out.2, hbV, (Array.getElem?_eq_some_iff.1 hh).1, fun e => by have h1 := hT.out.1.ld.lt (g := x.q) (.inr (.inr ⟨x, by simp, .inl rfl⟩)); omega, hxn, hxl⟩
          have HKP : Hid (∀ W, Below V2.heap.size V2 W → W.cell? ⟨p, 1, none⟩ = some (.map (some w.heap.size)) ∧ W.cell? ⟨wq.heap.size, 0, none⟩ = some (.string ⟨v.nm.toArray⟩) ∧ W.cell? ⟨wq.heap.size, 1, none⟩ = some (.slice v.a v.n v.cap) ∧ (Instr.lookup 59 (.map (some w.heap.size)) (.string ⟨v.nm.toArray⟩) false).run Try.prog W = .ok (.pointer (some ⟨x.q, 0, none⟩)) W) := fun W hbW => ⟨(box5 (HX.out.1.ld.below hbW).box).2.1, (hbW.cell (p := ⟨wq.heap.size, 0, none⟩) HX.out.2.2.2.2.2.1).trans e0, (hbW.cell (p := ⟨wq.heap.size, 1, none⟩) HX.out.2.2.2.2.2.1).trans e1, look_hit (HX.out.1.ld.below hbW).map hxn hxl⟩
          have HCL : Hid (∀ W, Below V2.heap.size V2 W → Calls Try.prog 27 #[.slice v.a v.n v.cap] W fun e w' => ∃ a' cap', e = .returned (.slice a' v.n cap') ∧ OwnF byU 1 5 w' W.heap.size (.slice a' v.n cap') f.bs ∧ Below W.heap.size W w') := fun W hbW => cloneU (hfo.row.below (hbV.trans (hbW.mono hbV.size))) hvl
          clear hcell hv hVh hh hb hg hf hfo hlj hxj hxn hxl hvl hbV
          go_wp2_with fail
          refine wp_region_held_drew (S := (fun W => W.cell? ⟨p, 1, none⟩ = some (.map (some w.heap.size)) ∧ W.cell? ⟨wq.heap.size, 0, none⟩ = some (.string ⟨v.nm.toArray⟩) ∧ W.cell? ⟨wq.heap.size, 1, none⟩ = some (.slice v.a v.n v.cap) ∧ (Instr.lookup 59 (.map (some w.heap.size)) (.string ⟨v.nm.toArray⟩) false).run Try.prog W = .ok (.pointer (some ⟨x.q, 0, none⟩)) W)) (by kernel_rfl) ?hS1 (fun hHeld => ?rest1)
          case hS1 => exact HKP.out _ ((Below.refl _ _).drew)
          refine takeD (i := 0) (d := some 44) (v := ?vT2) rfl rfl (by kernel_rfl) (by kernel_rfl) (by kernel_rfl) (fun _ _ _ h => h) (Or.inl ⟨by rfl, ?hyT2⟩) (by assumption) ?rstT2
          case hyT2 => (intro w hSw; obtain ⟨hSa, hSb, hSc, hSd⟩ := hSw; go_simp; (try with_reducible rfl))
          try simp only [Act.put, List.setIfInBounds_toArray, List.set_cons_zero, List.set_cons_succ]
          refine takeD (i := 1) (d := some 45) (v := ?vT3) rfl rfl (by kernel_rfl) (by kernel_rfl) (by kernel_rfl) (fun _ _ _ h => h) (Or.inl ⟨by rfl, ?hyT3⟩) (by assumption) ?rstT3
          case hyT3 => (intro w hSw; obtain ⟨hSa, hSb, hSc, hSd⟩ := hSw; go_simp; (try with_reducible rfl))
          try simp only [Act.put, List.setIfInBounds_toArray, List.set_cons_zero, List.set_cons_succ]
          refine takeD (i := 2) (d := some 46) (v := ?vT4) rfl rfl (by kernel_rfl) (by kernel_rfl) (by kernel_rfl) (fun _ _ _ h => h) (Or.inl ⟨by rfl, ?hyT4⟩) (by assumption) ?rstT4
          case hyT4 => (intro w hSw; obtain ⟨hSa, hSb, hSc, hSd⟩ := hSw; go_simp; (try with_reducible rfl))
          try simp only [Act.put, List.setIfInBounds_toArray, List.set_cons_zero, List.set_cons_succ]
          refine takeD (i := 3) (d := some 47) (v := ?vT5) rfl rfl (by kernel_rfl) (by kernel_rfl) (by kernel_rfl) (fun _ _ _ h => h) (Or.inl ⟨by rfl, ?hyT5⟩) (by assumption) ?rstT5
          case hyT5 => (intro w hSw; obtain ⟨hSa, hSb, hSc, hSd⟩ := hSw; go_simp; (try with_reducible rfl))
          try simp only [Act.put, List.setIfInBounds_toArray, List.set_cons_zero, List.set_cons_succ]
          refine takeD (i := 4) (d := some 48) (v := ?vT6) rfl rfl (by kernel_rfl) (by kernel_rfl) (by kernel_rfl) (fun _ _ _ h => h) (Or.inl ⟨by rfl, ?hyT6⟩) (by assumption) ?rstT6
          case hyT6 => (intro w hSw; obtain ⟨hSa, hSb, hSc, hSd⟩ := hSw; go_simp; (try with_reducible rfl))
          try simp only [Act.put, List.setIfInBounds_toArray, List.set_cons_zero, List.set_cons_succ]
          refine takeD (i := 5) (d := some 49) (v := ?vT7) rfl rfl (by kernel_rfl) (by kernel_rfl) (by kernel_rfl) (fun _ _ _ h => h) (Or.inl ⟨by rfl, ?hyT7⟩) (by assumption) ?rstT7
          case hyT7 => (intro w hSw; obtain ⟨hSa, hSb, hSc, hSd⟩ := hSw; go_simp; (try with_reducible rfl))
          try simp only [Act.put, List.setIfInBounds_toArray, List.set_cons_zero, List.set_cons_succ]
          refine takeD (i := 6) (d := some 50) (v := ?vT8) rfl rfl (by kernel_rfl) (by kernel_rfl) (by kernel_rfl) (fun _ _ _ h => h) (Or.inl ⟨by rfl, ?hyT8⟩) (by assumption) ?rstT8
          case hyT8 => (intro w hSw; obtain ⟨hSa, hSb, hSc, hSd⟩ := hSw; go_simp; (try with_reducible rfl))
          try simp only [Act.put, List.setIfInBounds_toArray, List.set_cons_zero, List.set_cons_succ]
          refine takeD (i := 7) (d := some 51) (v := ?vT9) rfl rfl (by kernel_rfl) (by kernel_rfl) (by kernel_rfl) (fun _ _ _ h => h) (Or.inl ⟨by rfl, ?hyT9⟩) (by assumption) ?rstT9
          case hyT9 => (intro w hSw; obtain ⟨hSa, hSb, hSc, hSd⟩ := hSw; go_simp; (try with_reducible rfl))
          try simp only [Act.put, List.setIfInBounds_toArray, List.set_cons_zero, List.set_cons_succ]
          refine takeD (i := 8) (d := some 52) (v := ?vT10) rfl rfl (by kernel_rfl) (by kernel_rfl) (by kernel_rfl) (fun _ _ _ h => h) (Or.inl ⟨by rfl, ?hyT10⟩) (by assumption) ?rstT10
          case hyT10 => (intro w hSw; obtain ⟨hSa, hSb, hSc, hSd⟩ := hSw; go_simp; (try with_reducible rfl))
          try simp only [Act.put, List.setIfInBounds_toArray, List.set_cons_zero, List.set_cons_succ]
          refine wpAnyH_ready (rs := [9]) (by kernel_rfl) (by simp) ?_
          refine AllReadyH.cons rfl (fun K hK => ?_) AllReadyH.nil
          go_simp
          refine (HCL.out _ ((Below.refl _ _).drew)).mono ?_
          rintro e w7 ⟨a7, cap7, rfl, ho7, hb7⟩
          have hcur7 : Below V2.heap.size V2 w7 := ((Below.refl _ _).drew).trans hb7
          have HFI : Hid (L1 w (w7.setCell ⟨x.q, 0, none⟩ (.slice a7 v.n cap7)) p w.heap.size lim fs k (l ++ { x with v := .slice a7 v.n cap7, bs := f.bs } :: r) ck) := (HX.out.1.grow hcur7).fill (f := f) ho7 (fun g hg hq => by have h1 := HX.out.1.ld.lt hq; have h2 : V2.heap.size ≤ g := ho7.ge hg; omega) (fun g hg => by have h1 := HX.out.1.below.size; have h2 : V2.heap.size ≤ g := ho7.ge hg; omega)
          clear ho7 hb7
          clear hHeld
          refine hK.out _ _ ?hS11 (fun hHeld => ?rest11)
          case hS11 => exact HKP.out _ hcur7
          clear hK K
          try simp only [Act.put, List.setIfInBounds_toArray, List.set_cons_zero, List.set_cons_succ]
          refine takeD (i := 10) (d := some 54) (v := ?vT12) rfl rfl (by kernel_rfl) (by kernel_rfl) (by kernel_rfl) (fun _ _ _ h => h) (Or.inl ⟨by rfl, ?hyT12⟩) (by assumption) ?rstT12
          case hyT12 => (intro w hSw; obtain ⟨hSa, hSb, hSc, hSd⟩ := hSw; go_simp; (try with_reducible rfl))
          try simp only [Act.put, List.setIfInBounds_toArray, List.set_cons_zero, List.set_cons_succ]
          refine takeD (i := 11) (d := some 55) (v := ?vT13) rfl rfl (by kernel_rfl) (by kernel_rfl) (by kernel_rfl) (fun _ _ _ h => h) (Or.inl ⟨by rfl, ?hyT13⟩) (by assumption) ?rstT13
          case hyT13 => (intro w hSw; obtain ⟨hSa, hSb, hSc, hSd⟩ := hSw; go_simp; (try with_reducible rfl))
          try simp only [Act.put, List.setIfInBounds_toArray, List.set_cons_zero, List.set_cons_succ]
          refine wpAnyH_ready (rs := [12]) (by kernel_rfl) (by simp) ?_
          refine AllReadyH.cons rfl (fun K hK => ?_) AllReadyH.nil
          have hq7 := ((HX.out.1.ld.below hcur7).file x (by simp)).box
          obtain ⟨x0, x1⟩ := box2 hq7
          have f0 := Lib.frozen_of_heap hq7 0
          go_simp
          clear hHeld
          refine hK.out _ _ ?hS14 (fun hHeld => ?rest14)
          case hS14 => exact ⟨(box5 HFI.out.ld.box).2.1, ((Chg.set (D := fun g => g = x.q) (q := x.q) 0 w7 _ rfl).cell (p := ⟨wq.heap.size, 0, none⟩) (Nat.lt_of_lt_of_le HX.out.2.2.2.2.2.1 hcur7.size) HX.out.2.2.2.2.2.2.1).trans (HKP.out _ hcur7).2.1, ((Chg.set (D := fun g => g = x.q) (q := x.q) 0 w7 _ rfl).cell (p := ⟨wq.heap.size, 1, none⟩) (Nat.lt_of_lt_of_le HX.out.2.2.2.2.2.1 hcur7.size) HX.out.2.2.2.2.2.2.1).trans (HKP.out _ hcur7).2.2.1, look_hit (x := { x with v := .slice a7 v.n cap7, bs := f.bs }) HFI.out.ld.map HX.out.2.2.2.2.2.2.2.1 HX.out.2.2.2.2.2.2.2.2⟩
          clear hK K
          try simp only [Act.put, List.setIfInBounds_toArray, List.set_cons_zero, List.set_cons_succ]
          refine wpAnyH_done (by kernel_rfl) ?_ _
          go_wp2_with fail
          go_roundw
          case rel => exact ⟨j + 1, by omega, by first | rfl | go_num, _, HFI.out, by
            have h1 := fill_done (fs := fs) (l := l) (r := r) (x := x) (f := f) (v' := .slice a7 v.n cap7) (by rw [HX.out.2.1]; exact HX.out.2.2.1) (by rw [HX.out.2.1]; exact HX.out.2.2.2.1)
            rw [HX.out.2.1] at h1
            exact h1⟩
          case measure => simp [RowKit.intOf]; omega
        · obtain rfl : j = k := by omega
          have hlt3 : ¬ ((j : Int) < (j : Int)) := by omega
          go_wp2_with fail
          go_ret2
          have hend := hT.out.1.all (by rw [← HF.out.1, HR.out.1.len]) hT.out.2 HF.out.2.2
          first | exact ⟨p, rfl, w.heap.size, ys, ⟨ck, hend⟩, hT.out.1.ge, hT.out.1.below⟩ | exact ⟨p, rfl, ⟨w.heap.size, ys, ⟨ck, hend⟩, hT.out.1.ge⟩, hT.out.1.below⟩ | trace_state
end Go.Proofs.Ytjcfeaekhefpfaa
