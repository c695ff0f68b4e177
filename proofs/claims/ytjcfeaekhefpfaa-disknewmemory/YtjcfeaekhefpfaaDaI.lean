import Derived.Test.YtjcfeaekhefpfaaDaH
/-! crash, giveUp, Crash. -/
namespace Go.Proofs.Ytjcfeaekhefpfaa
open Go.RowKit Go.Lib
set_option maxRecDepth 100000

/-- The files that a crash leaves. -/
def leftX (k : Nat) (xs : List X) : List X := (xs.filter (fun x => !(x.lose k).bs.isEmpty)).map (X.lose k)
theorem leftX_fl (k : Nat) (xs : List X) : (leftX k xs).map X.fl = ((xs.map X.fl).map (Fl.lose k)).filter (fun f => !f.bs.isEmpty) := by
  unfold leftX
  rw [List.map_map, List.map_map, List.filter_map]
  rfl
theorem leftX_blk {p b k : Nat} {xs : List X} {g : Nat} (h : Blk p b (leftX k xs) g) : Blk p b xs g := by
  rcases h with h | h | ⟨x, hx, h⟩
  · exact .inl h
  · exact .inr (.inl h)
  · obtain ⟨y, hy, rfl⟩ := List.mem_map.1 hx
    refine .inr (.inr ⟨y, (List.mem_filter.1 hy).1, ?_⟩)
    rcases h with h | h
    · exact .inl h
    · rw [lose_own] at h; exact .inr h
theorem Way.ends {w wr W' : World} {p b ck k : Nat} {S : Dk} {xs ys : List X} (hD : DiskAt w p b S xs ck) (h : Way w wr p b S xs ck k ys) (hall : ∀ x ∈ xs.filter (keepF k ys), x.born ∈ ys.map (·.born)) (hC : Chg (fun g => g = p) wr W')
    (hb : W'.heap[p]? = some (.cells #[.int .i64 (S.limit : Int), .map (some b), .bool true, .int .i64 0, .int .i64 0] 63)) : DiskAt W' p b (crashP k S) (leftX k xs) ck := by
  have hin : ∀ x ∈ xs, (ys.map (·.born)).contains x.born = true := fun x hx => by
    by_cases hc : (ys.map (·.born)).contains x.born = true
    · exact hc
    · have hf : keepF k ys x = true := by
        unfold keepF
        rw [Bool.not_eq_true] at hc
        rw [hc]
        rfl
      exact List.contains_iff_mem.2 (hall x (List.mem_filter.2 ⟨hx, hf⟩))
  have hcur : xs.filter (keepF k ys) = xs.filter (fun x => !(x.lose k).bs.isEmpty) := List.filter_congr fun x hx => by
    unfold keepF
    rw [hin x hx]
    rfl
  have hpb : ¬ b = p := fun e => hD.p_ne_b e.symm
  have hm := h.map.chg hC hpb
  rw [hcur] at hm
  refine ⟨hb, ⟨?_, ?_, ?_, ?_⟩, ?_, ?_, ?_, ?_⟩
  · rw [hm.heap]
    unfold leftX
    rw [List.map_map]
    rfl
  · intro x hx
    obtain ⟨y, hy, rfl⟩ := List.mem_map.1 hx
    exact hm.lt y hy
  · have := hm.born
    unfold leftX
    rw [List.map_map]
    exact this
  · have := hm.nm
    unfold leftX
    rw [List.map_map]
    exact this
  · intro x hx
    obtain ⟨y, hy, rfl⟩ := List.mem_map.1 hx
    have hyx := (List.mem_filter.1 hy).1
    have := h.file y hyx
    unfold stX at this
    rw [if_pos (hin y hyx)] at this
    exact this.chg hC (fun e => hD.p_ne_q hyx e.symm) (fun g hg e => by
      rw [lose_own] at hg
      exact hD.p_ne_g hyx hg e.symm)
  · have := nodup_filter hD.qs (fun x => !(x.lose k).bs.isEmpty)
    unfold leftX
    rw [List.map_map]
    exact this
  · unfold leftX
    rw [List.pairwise_map]
    refine (hD.gs.sublist List.filter_sublist).imp ?_
    intro x y hxy g hg
    rw [lose_own] at hg ⊢
    exact hxy g hg
  · show (S.fs.map (Fl.lose k)).filter _ = _
    rw [leftX_fl, hD.fs]
theorem Way.meas {w wr W1 : World} {p b ck k : Nat} {S : Dk} {xs cur ys : List X} {x : X} (h : Way w wr p b S xs ck k ys) (hx : x ∈ xs) (hnew : x.born ∉ ys.map (·.born)) (hr : RngAt W1 w.heap.size b cur (ys ++ [x]) ck) :
    (∃ s1 s2 c1 c2, wr.heap[w.heap.size]? = some (.mapIter (some b) s1 (ys.map (·.born)).toArray c1) ∧ W1.heap[w.heap.size]? = some (.mapIter (some b) s2 ((ys ++ [x]).map (·.born)).toArray c2)) ∧ ys.length + 1 ≤ xs.length := by
  obtain ⟨s1, c1, e1, _⟩ := h.rng.iter
  obtain ⟨s2, c2, e2, _⟩ := hr.iter
  refine ⟨⟨s1, s2, c1, c2, e1, e2⟩, ?_⟩
  obtain ⟨zs, hz⟩ := left_perm (sub_snoc h.sub hx) (nodup_snoc h.nod hnew)
  have := hz.length_eq
  simp at this
  omega
set_option maxHeartbeats 4000000 in
theorem crash_any {w : World} {p b ck : Nat} {S : Dk} {xs : List X} (h : DiskAt w p b S xs ck) (hu : lenX xs ≤ 1099511627776) (k : Nat) (hk : k ≤ 9223372036854775807) :
    Calls Try.prog 43 #[.pointer (some ⟨p, 0, none⟩), .int .i64 (k : Int)] w fun e w' => e = .returned (.tuple #[]) ∧ DiskAt w' p b (crashP k S) (leftX k xs) ck ∧ Chg (Blk p b xs) w w' := by
  obtain ⟨c0, c1, c2, c3, c4⟩ := box5 h.box
  obtain ⟨hrun, hrg⟩ := range_start h.map
  have hlen : ∀ x ∈ xs, x.bs.length ≤ 1099511627776 := fun x hx => by
    have : lenX [x] ≤ lenX xs := by
      obtain ⟨a, c, rfl⟩ := List.append_of_mem hx
      simp [lenX]
      omega
    simp [lenX] at this
    unfold lenX at hu
    omega
  have HH : Hid (DiskAt w p b S xs ck ∧ (∀ x ∈ xs, x.bs.length ≤ 1099511627776) ∧ k ≤ 9223372036854775807) := ⟨h, hlen, hk⟩
  have HR : Hid (RngAt (w.alloc (.mapIter (some b) ck #[] ck)) w.heap.size b xs [] ck) := hrg
  clear h hu hrg c0 c2 c3 c4 hlen hk
  go_enter Try.func43, Try.ntmps43
  go_wp2_with fail
  go_loopw [4, 5] (fun _ _ wr => ∃ ys : List X, Way w wr p b S xs ck k ys) (fun _ _ wr => match wr.heap[w.heap.size]? with | some (.mapIter _ _ seen _) => xs.length - seen.size | _ => 0)
  case atStart =>
    have hB : Below w.heap.size w (w.alloc (.mapIter (some b) ck #[] ck)) := (Below.refl _ _).alloc (Nat.le_refl _) _
    have hD2 := HH.out.1.below hB
    have hf : xs.filter (keepF k []) = xs := List.filter_eq_self.2 fun x _ => by simp [keepF]
    exact ⟨[], by simp, by simp, hD2.box, by rw [hf]; exact hD2.map, by rw [hf]; exact HR.out, fun x hx => hD2.file x hx, Chg.of_below hB⟩
  case round =>
    obtain ⟨ys, hW⟩ := hrel
    have HWY : Hid (Way w wr p b S xs ck k ys) := hW
    clear hW
    rcases next_step HWY.out.map HWY.out.rng with ⟨hall, hnx⟩ | ⟨x, hxc, hnew, W1, hnx, hrg1, hC1, hs1, hen⟩
    · have hb := setBox3 HWY.out.box (.bool true) (.int .i64 0) (.int .i64 0)
      have HE : Hid (DiskAt (((wr.setCell ⟨p, 2, none⟩ (.bool true)).setCell ⟨p, 3, none⟩ (.int .i64 0)).setCell ⟨p, 4, none⟩ (.int .i64 0)) p b (crashP k S) (leftX k xs) ck ∧ Chg (Blk p b xs) w (((wr.setCell ⟨p, 2, none⟩ (.bool true)).setCell ⟨p, 3, none⟩ (.int .i64 0)).setCell ⟨p, 4, none⟩ (.int .i64 0))) :=
        ⟨HWY.out.ends HH.out.1 hall hb.2 hb.1, HWY.out.chg.trans (hb.2.mono (fun g _ e => .inl e))⟩
      have f2 := Lib.frozen_of_heap HWY.out.box 2
      have f3 := Lib.frozen_of_heap HWY.out.box 3
      have f4 := Lib.frozen_of_heap HWY.out.box 4
      obtain ⟨d0, d1, d2, d3, d4⟩ := box5 HWY.out.box
      clear hb hall HWY d0 d1
      go_wp2_with fail
      go_end0
      exact ⟨rfl, HE.out⟩
    · have hx : x ∈ xs := (List.mem_filter.1 hxc).1
      have hD := HH.out.1
      have hsz := HWY.out.chg.size
      have hlt : ∀ g, Blk p b xs g → g < w.heap.size := fun g hg => hD.lt hg
      have hF1 : FileAt W1 x := by
        have h1 := HWY.out.file x hx
        have h2 : stX k ys x = x := by
          unfold stX
          rw [if_neg]
          intro hc
          exact hnew (List.contains_iff_mem.1 hc)
        rw [h2] at h1
        exact h1.chg hC1 (fun e => by have := (hD.file x hx).lt; omega) (fun g hg e => by have := (hD.file x hx).vlt hg; omega)
      have HL : Hid (Calls Try.prog 51 #[.pointer (some ⟨x.q, 0, none⟩), .int .i64 (k : Int)] W1 fun e w' => e = .returned (.tuple #[]) ∧ FileAt w' (x.lose k) ∧ Chg (fun g => g = x.q) W1 w' ∧ w'.heap.size = W1.heap.size) := lose_any hF1 (HH.out.2.1 x hx) k HH.out.2.2
      have HX : Hid (x ∈ xs.filter (keepF k ys) ∧ x ∈ xs ∧ x.born ∉ ys.map (·.born) ∧ RngAt W1 w.heap.size b (xs.filter (keepF k ys)) (ys ++ [x]) ck ∧ Chg (fun g => g = w.heap.size) wr W1 ∧ W1.heap.size = wr.heap.size ∧ (∀ g, Blk p b xs g → g < w.heap.size) ∧ w.heap.size ≤ wr.heap.size) := ⟨hxc, hx, hnew, hrg1, hC1, hs1, hlt, hsz⟩
      clear hF1 hlt hsz hD hx hxc hnew hrg1 hC1 hs1
      go_wp2_with fail
      refine HL.out.mono ?_
      rintro e W2 ⟨rfl, hF2, hC2, hs2⟩
      obtain ⟨d0, d1⟩ := box2 hF2.box
      obtain ⟨a, cap, hv, h1, h2, hrw⟩ := own_shape hF2.own
      rw [hv] at d0
      replace d0 : W2.cell? ⟨x.q, 0, none⟩ = some (.slice a (x.lose k).bs.length cap) := d0
      clear d1
      have hD := HH.out.1
      obtain ⟨hxc, hx, hnew, hrg1, hC1, hs1, hlt, hsz⟩ := HX.out
      have hbx2 : W2.heap[p]? = some (.cells #[.int .i64 (S.limit : Int), .map (some b), .bool S.down, .int .i64 (S.steps : Int), .int .i64 (S.keep : Int)] 63) := hC2.block (hC1.block HWY.out.box (fun e => by have := hlt p (.inl rfl); omega)) (hD.p_ne_q hx)
      have hm2 : MapAt W2 b (xs.filter (keepF k ys)) ck := (HWY.out.map.chg hC1 (fun e => by have := hlt b (.inr (.inl rfl)); omega)).chg hC2 (hD.b_ne_q hx)
      have hr2 : RngAt W2 w.heap.size b (xs.filter (keepF k ys)) (ys ++ [x]) ck := hrg1.chg hC2 (fun e => by have := (hD.file x hx).lt; omega)
      have hf2 := HWY.out.files hD hx hnew hC1 hC2 hF2
      have hc2 : Chg (Blk p b xs) w W2 := (HWY.out.chg.then hC1 (fun g e => .inr (by omega))).then hC2 (fun g e => .inl (.inr (.inr ⟨x, hx, .inl e⟩)))
      have e1 := (box5 hbx2).2.1
      by_cases hz : (x.lose k).bs = []
      · obtain ⟨l, r, hlr, hnl⟩ := split_at hxc hm2.nm
        rw [hlr] at hm2
        obtain ⟨W3, hdel, hm3, hC3, hs3⟩ := del_hit hm2 (rfl : x.nm = x.nm) hnl
        have hcg := cur_gone hx hD.map.born hz hlr (by rw [← hlr]; exact nodup_filter hD.map.born _)
        have hbr : ¬ w.heap.size = b := fun e => by have := hlt b (.inr (.inl rfl)); omega
        have HN : Hid (Way w W3 p b S xs ck k (ys ++ [x]) ∧ (∃ s1 s2 c1 c2, wr.heap[w.heap.size]? = some (.mapIter (some b) s1 (ys.map (·.born)).toArray c1) ∧ W3.heap[w.heap.size]? = some (.mapIter (some b) s2 ((ys ++ [x]).map (·.born)).toArray c2)) ∧ ys.length + 1 ≤ xs.length) := by
          have hrr : RngAt W3 w.heap.size b (xs.filter (keepF k (ys ++ [x]))) (ys ++ [x]) ck := (hr2.chg hC3 hbr).sub (fun z hz => by
            rw [hcg] at hz
            rw [hlr]
            rcases List.mem_append.1 hz with h | h
            · exact List.mem_append.2 (.inl h)
            · exact List.mem_append.2 (.inr (List.mem_cons_of_mem _ h)))
          refine ⟨⟨sub_snoc HWY.out.sub hx, nodup_snoc HWY.out.nod hnew, hC3.block hbx2 hD.p_ne_b, by rw [hcg]; exact hm3, hrr, fun z hz => (hf2 z hz).chg hC3 (fun e => ?_) (fun g hg e => ?_), hc2.then hC3 (fun g e => .inl (.inr (.inl e)))⟩, HWY.out.meas hx hnew hrr⟩
          · rw [stX_q] at e; exact hD.b_ne_q hz e.symm
          · rw [stX_own] at hg; exact hD.b_ne_g hz hg e.symm
        have z0 : (x.lose k).bs.length = 0 := by rw [hz]; rfl
        rw [z0] at d0
        clear hF2 hC2 hs2 hv h1 h2 hrw hxc hx hnew hrg1 hC1 hs1 hlt hsz hbx2 hm2 hr2 hf2 hc2 hz hlr hnl hm3 hC3 hs3 hcg hbr hD z0 HL HX
        go_wp2_with fail
        go_roundw
        case rel => exact ⟨_, HN.out.1⟩
        case measure =>
          obtain ⟨⟨s1, s2, c1, c2, e1, e2⟩, h9⟩ := HN.out.2
          simp only [e1, e2]
          simp
          omega
      · have hcs := cur_stay (ys := ys) hx hD.map.born hz
        have HN : Hid (Way w W2 p b S xs ck k (ys ++ [x]) ∧ (∃ s1 s2 c1 c2, wr.heap[w.heap.size]? = some (.mapIter (some b) s1 (ys.map (·.born)).toArray c1) ∧ W2.heap[w.heap.size]? = some (.mapIter (some b) s2 ((ys ++ [x]).map (·.born)).toArray c2)) ∧ ys.length + 1 ≤ xs.length) := by
          have hrr : RngAt W2 w.heap.size b (xs.filter (keepF k (ys ++ [x]))) (ys ++ [x]) ck := by rw [hcs]; exact hr2
          exact ⟨⟨sub_snoc HWY.out.sub hx, nodup_snoc HWY.out.nod hnew, hbx2, by rw [hcs]; exact hm2, hrr, hf2, hc2⟩, HWY.out.meas hx hnew hrr⟩
        have z0 : (((x.lose k).bs.length : Int) == 0) = false := beq_eq_false_iff_ne.2 (fun e => hz (List.length_eq_zero_iff.1 (by omega)))
        clear hF2 hC2 hs2 hv h1 h2 hrw hxc hx hnew hrg1 hC1 hs1 hlt hsz hbx2 hm2 hr2 hf2 hc2 hz hcs hD HL HX
        go_wp2_with fail
        go_roundw
        case rel => exact ⟨_, HN.out.1⟩
        case measure =>
          obtain ⟨⟨s1, s2, c1, c2, e1, e2⟩, h9⟩ := HN.out.2
          simp only [e1, e2]
          simp
          omega
end Go.Proofs.Ytjcfeaekhefpfaa
