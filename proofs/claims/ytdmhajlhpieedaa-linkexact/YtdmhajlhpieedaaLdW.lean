import Derived.Test.YtdmhajlhpieedaaLdV
/-! The book's takeList. -/
namespace Go.Proofs.Ytdmhajlhpieedaa
open Go.RowKit Go.Lib Go.Shelf
set_option maxRecDepth 100000

/-- A list of flights while it is written full. -/
def FlI (W2 : World) (go n k i : Nat) (wr : World) : Prop := (∃ rest : List Value, wr.heap[go]? = some (.cells (flatF mkv (List.replicate i k) ++ rest).toArray 73) ∧ rest.length = (n - i) * 5) ∧ Chg (fun x => x = go) W2 wr
theorem FlI.step {W2 wr : World} {go n k i : Nat} {mk : Int} (hmk : -1 - (k : Int) = mk) (h : FlI W2 go n k i wr) (hi : i < n) : ∃ u0 u1 u2 u3 u4 W9, (wr.cell? ⟨go, i * 5, none⟩ = some u0 ∧ wr.cell? ⟨go, i * 5 + 1, none⟩ = some u1 ∧ wr.cell? ⟨go, i * 5 + 2, none⟩ = some u2 ∧ wr.cell? ⟨go, i * 5 + 3, none⟩ = some u3 ∧ wr.cell? ⟨go, i * 5 + 4, none⟩ = some u4) ∧ (∀ j, wr.frozen? ⟨go, j, none⟩ = false) ∧
    ((((wr.setCell ⟨go, i * 5, none⟩ (.int .i64 mk)).setCell ⟨go, i * 5 + 1, none⟩ (.int .i64 0)).setCell ⟨go, i * 5 + 2, none⟩ (.int .i64 0)).setCell ⟨go, i * 5 + 3, none⟩ (.slice none 0 0)).setCell ⟨go, i * 5 + 4, none⟩ (.bool false) = W9 ∧ FlI W2 go n k (i + 1) W9 := by
  obtain ⟨⟨rest, h1, h2⟩, h3⟩ := h
  obtain ⟨E, B, hE, hl⟩ : ∃ E B, rest = E ++ B ∧ E.length = 5 := ⟨rest.take 5, rest.drop 5, by simp, by rw [List.length_take]; omega⟩
  obtain ⟨u0, u1, u2, u3, u4, rfl⟩ := five E hl
  subst hE
  have hA : (flatF mkv (List.replicate i k)).length = i * 5 := by rw [flatF_length layM, List.length_replicate]
  rw [← List.append_assoc] at h1
  obtain ⟨W9, hW, hx, hC⟩ := set5 h1 hA (.int .i64 mk) (.int .i64 0) (.int .i64 0) (.slice none 0 0) (.bool false)
  refine ⟨u0, u1, u2, u3, u4, W9, ?_, fun j => Lib.frozen_of_heap h1 j, hW, ⟨B, ?_, ?_⟩, h3.trans hC⟩
  · have hg : ∀ (j : Nat) (v : Value), [u0, u1, u2, u3, u4][j]? = some v → wr.cell? ⟨go, i * 5 + j, none⟩ = some v := fun j v hv => by
      simp only [World.cell?, h1]
      have hj : j < 5 := by
        rcases Nat.lt_or_ge j 5 with h' | h'
        · exact h'
        · rw [List.getElem?_eq_none (by simpa using h')] at hv; cases hv
      rw [List.getElem?_toArray, ← hA, mid_get _ _ _ _ (by simpa using hj), hv]
      rfl
    exact ⟨hg 0 _ rfl, hg 1 _ rfl, hg 2 _ rfl, hg 3 _ rfl, hg 4 _ rfl⟩
  · rw [hx, List.replicate_succ', flatF_append, ← hmk]
    simp [flatF, mkv]
  · rw [List.length_append] at h2
    simp at h2
    omega
/-- What takeList leaves. -/
def TalP (C : Nat → Prop) (W : World) (h : Nat) (gv wv : Value) (gs : List Br) (ls : List Fs) (go : Nat) (W' : World) : Prop := ∃ lv' l1 l2, Bk (fun g => C g ∨ g = go ∨ (W.heap.size ≤ g ∧ g < W'.heap.size)) W' h gv wv lv' gs (ls ++ [l1, l2]) ∧ Chg (fun g => C g ∨ g = go) W W'
/-- Its memory, behind the loop. -/
def TalM (C : Nat → Prop) (W : World) (h : Nat) (gv wv lv : Value) (gs : List Br) (ls : List Fs) (go n : Nat) (mk : Int) (bx : Nat) (wr : World) : Prop :=
    ∃ cap' V1 lv' V2, (∃ a4 n4 c4, lv' = .slice a4 n4 c4) ∧ (Builtin.append_ #[52, 52] 52 #[.slice (some ⟨go, 0, none⟩) n n, .slice (some ⟨wr.heap.size, 0, none⟩) 8 8]).run Try.prog (wr.drew.alloc (.cells (List.toArray (.int .i64 mk :: .int .i64 0 :: .int .i64 0 :: .slice none 0 0 :: .bool false :: .int .i64 mk :: .int .i64 0 :: .int .i64 0 :: .slice none 0 0 :: .bool false :: .int .i64 mk :: .int .i64 0 :: .int .i64 0 :: .slice none 0 0 :: .bool false :: .int .i64 mk :: .int .i64 0 :: .int .i64 0 :: .slice none 0 0 :: .bool false :: .int .i64 mk :: .int .i64 0 :: .int .i64 0 :: .slice none 0 0 :: .bool false :: .int .i64 mk :: .int .i64 0 :: .int .i64 0 :: .slice none 0 0 :: .bool false :: .int .i64 mk :: .int .i64 0 :: .int .i64 0 :: .slice none 0 0 :: .bool false :: .int .i64 mk :: .int .i64 0 :: .int .i64 0 :: .slice none 0 0 :: .bool false :: [])) 73)) = .ok (.slice (some ⟨wr.heap.size + 1, 0, none⟩) (n + 8) cap') V1 ∧
      (Builtin.append_ #[59, 59] 59 #[lv, .slice (some ⟨V1.heap.size, 0, none⟩) 2 2]).run Try.prog (V1.alloc (.cells #[.slice (some ⟨go, 0, none⟩) n n, .slice (some ⟨wr.heap.size + 1, 0, none⟩) (n + 8) cap'] 52)) = .ok lv' V2 ∧
      (wr.heap[h]? = some (.cells #[gv, wv, lv] 61) ∧ V1.heap[h]? = some (.cells #[gv, wv, lv] 61) ∧ V2.heap[h]? = some (.cells #[gv, wv, lv] 61)) ∧
      (wr.heap[bx]? = some (.cells #[.int .i64 mk, .int .i64 0, .int .i64 0, .slice none 0 0, .bool false] 73) ∧ V1.heap[bx]? = some (.cells #[.int .i64 mk, .int .i64 0, .int .i64 0, .slice none 0 0, .bool false] 73) ∧ V2.heap[bx]? = some (.cells #[.int .i64 mk, .int .i64 0, .int .i64 0, .slice none 0 0, .bool false] 73)) ∧ TalP C W h gv wv gs ls go (V2.setCell ⟨h, 2, none⟩ lv')
set_option maxHeartbeats 2000000 in
theorem tal_mem {C : Nat → Prop} {W W2 wr : World} {h : Nat} {gv wv lv : Value} {gs : List Br} {ls : List Fs} {go n k bx : Nat} {mk : Int} (hmk : -1 - (k : Int) = mk) (hk : ls.length / 2 = k) (hev : ls.length % 2 = 0) (hb : Bk C W h gv wv lv gs ls) (hgo : ¬ C go) (hty : ∃ cur : Array Value, W.heap[go]? = some (.cells cur 73)) (hB2 : Below W.heap.size W W2) (hbx : W2.heap[bx]? = some (.cells #[.int .i64 mk, .int .i64 0, .int .i64 0, .slice none 0 0, .bool false] 73)) (hnew : W.heap.size ≤ bx) (hF : FlI W2 go n k n wr) (hn : n ≤ 1048576) (hl : ls.length ≤ 1099511627776) : TalM C W h gv wv lv gs ls go n mk bx wr := by
  obtain ⟨curg, hgoW⟩ := hty
  have hglt : go < W.heap.size := (Array.getElem?_eq_some_iff.1 hgoW).1
  obtain ⟨⟨rest, h1, h2⟩, hCr⟩ := hF
  obtain rfl : rest = [] := List.length_eq_zero_iff.1 (by rw [h2]; simp)
  have hb2 := hb.below hB2
  have hbr := hb2.chg hCr (fun g hg e => hgo (e ▸ hg))
  have hbxr := hCr.block hbx (by omega)
  have hcs : flatF mkv (List.replicate 8 k) = (List.toArray (.int .i64 mk :: .int .i64 0 :: .int .i64 0 :: .slice none 0 0 :: .bool false :: .int .i64 mk :: .int .i64 0 :: .int .i64 0 :: .slice none 0 0 :: .bool false :: .int .i64 mk :: .int .i64 0 :: .int .i64 0 :: .slice none 0 0 :: .bool false :: .int .i64 mk :: .int .i64 0 :: .int .i64 0 :: .slice none 0 0 :: .bool false :: .int .i64 mk :: .int .i64 0 :: .int .i64 0 :: .slice none 0 0 :: .bool false :: .int .i64 mk :: .int .i64 0 :: .int .i64 0 :: .slice none 0 0 :: .bool false :: .int .i64 mk :: .int .i64 0 :: .int .i64 0 :: .slice none 0 0 :: .bool false :: .int .i64 mk :: .int .i64 0 :: .int .i64 0 :: .slice none 0 0 :: .bool false :: []) : Array Value).toList := by rw [← hmk]; rfl
  have hSg : Sg mkv 5 73 wr.drew go [] (List.replicate n k) [] n := ⟨by show wr.heap[go]? = _; simpa using h1, by simp, by simp, by simp only [maxLen]; omega⟩
  have hll : (List.replicate n k).length = n := List.length_replicate ..
  have hap := sg_append kindV layM hSg (List.replicate 8 k) _ hcs 8 rfl (by decide) (by rw [hll]; omega) (by rw [hll]; omega) 52
  rw [hll, List.replicate_append_replicate] at hap
  rcases hap with ⟨hr, _⟩ | ⟨_, V1, cap', e1, ⟨post', e2, e3⟩, e4⟩
  · omega
  have hb1 := hbr.below ((Below.refl wr.heap.size wr).drew.trans e4)
  have hB1 : Below wr.heap.size wr V1 := (Below.refl wr.heap.size wr).drew.trans e4
  have hbx1 := (hB1.block bx (Array.getElem?_eq_some_iff.1 hbxr).1).trans hbxr
  have e21 : V1.heap[wr.heap.size + 1]? = some (.cells ([] ++ flatF mkv (List.replicate (n + 8) k) ++ post').toArray 73) := e2.1
  obtain ⟨l1, hl1⟩ : ∃ l1 : Fs, ⟨some ⟨go, 0, none⟩, n, n⟩ = l1 := ⟨_, rfl⟩
  obtain ⟨l2, hl2⟩ : ∃ l2 : Fs, ⟨some ⟨wr.heap.size + 1, 0, none⟩, cap', n + 8⟩ = l2 := ⟨_, rfl⟩
  obtain ⟨lv', V2, hap2, hlst2, hC2, hlb⟩ := offF_appends kindFs layFs hb1.at_.lists [l1, l2] #[.slice (some ⟨go, 0, none⟩) n n, .slice (some ⟨wr.heap.size + 1, 0, none⟩) (n + 8) cap'] (by rw [← hl1, ← hl2]; simp [flatF, fsv]) 2 rfl (by decide) (by omega) (by omega) 59
  have tl1 : ∀ {x : Nat}, lv.ownBlock = some x → ∃ cur : Array Value, V1.heap[x]? = some (.cells cur 52) := fun hx => hb1.at_.lists.block hx
  have hbxo2 := hC2.block hb1.at_.box (fun e => by obtain ⟨c, hc⟩ := tl1 e; exact type_ne hc hb1.at_.box (by decide) rfl)
  have hbx2 := hC2.block hbx1 (fun e => by obtain ⟨c, hc⟩ := tl1 e; exact type_ne hc hbx1 (by decide) rfl)
  refine ⟨cap', V1, lv', V2, by obtain ⟨x, y, z, _⟩ := hlst2.shape; exact ⟨x, _, y, z⟩, e1, hap2, ⟨hbr.at_.box, hb1.at_.box, hbxo2⟩, ⟨hbxr, hbx1, hbx2⟩, ?_⟩
  obtain ⟨V3, hV3⟩ : ∃ V3, V2.setCell ⟨h, 2, none⟩ lv' = V3 := ⟨_, rfl⟩
  rw [hV3]
  have hbx3 : V3.heap[h]? = some (.cells #[gv, wv, lv'] 61) := by rw [← hV3]; exact heap_setCell_cells hbxo2 2 lv'
  have hC3 : Chg (fun x => x = h) V2 V3 := by rw [← hV3]; exact Chg.set (D := fun x => x = h) (q := h) 2 _ _ rfl
  have hC13 : Chg (fun x => lv.ownBlock = some x ∨ x = h) V1 V3 := (hC2.mono (fun x _ e => .inl e)).trans (hC3.mono (fun x _ e => .inr e))
  have nT : ∀ {x : Nat} {cur : Array Value} {T : TypeId}, V1.heap[x]? = some (.cells cur T) → T ≠ 52 → T ≠ 61 → ¬ (lv.ownBlock = some x ∨ x = h) := fun {x cur T} hc n1 n2 e => by
    rcases e with e | e
    · obtain ⟨c2, hc2⟩ := tl1 e; exact type_ne hc hc2 n1 rfl
    · exact type_ne hc hb1.at_.box n2 e
  have hgo1 : V1.heap[go]? = some (.cells (flatF mkv (List.replicate n k) ++ []).toArray 73) := (hB1.block go (Array.getElem?_eq_some_iff.1 h1).1).trans h1
  have sr := hCr.size
  have s2 := hB2.size
  have s1 := hB1.size
  have hRl1 : Rw mkv 5 V3 (some ⟨go, 0, none⟩) n n (List.replicate n k) := by
    have h3 : Sg mkv 5 73 V1 go [] (List.replicate n k) [] n := ⟨by simpa using hgo1, by simp, by simp, by simp only [maxLen]; omega⟩
    have h4 := h3.rw_ layM
    rw [hll] at h4
    exact h4.chgB hC13 (fun p hp => by cases hp; exact nT hgo1 (by decide) (by decide))
  have hRl2 : Rw mkv 5 V3 (some ⟨wr.heap.size + 1, 0, none⟩) (n + 8) cap' (List.replicate (n + 8) k) := by
    have h4 := e2.rw_ layM
    rw [List.length_replicate] at h4
    exact h4.chgB hC13 (fun p hp => by cases hp; exact nT e21 (by decide) (by decide))
  have hlst3 : OffF fsv 1 52 V3 lv' (ls ++ [l1, l2]) := hlst2.chg hC3 (fun x hx e => by obtain ⟨c, hc⟩ := hlst2.block hx; exact type_ne hc hbxo2 (by decide) e)
  have e1a : l1.a = some ⟨go, 0, none⟩ := by rw [← hl1]
  have e2a : l2.a = some ⟨wr.heap.size + 1, 0, none⟩ := by rw [← hl2]
  have hCW : Chg (fun g => C g ∨ g = go) W V3 := (((Chg.of_below hB2).trans (hCr.mono (fun x _ e => .inr e))).trans (Chg.of_below hB1)).trans (hC13.mono (fun x _ e => .inl (e.elim (hb.cl x) (fun e => e ▸ hb.ch))))
  refine ⟨lv', l1, l2, ⟨⟨hbx3, hb1.at_.got.chg hC13 (fun x hx => ?_), hb1.at_.want.chg hC13 (fun x hx => ?_), hlst3, fun b hbb => (hb1.at_.by_ b hbb).chgB hC13 (fun p hp => ?_), fun i l hi => ?_⟩, .inl hb.ch, fun g hg => .inl (hb.cg g hg), fun g hg => .inl (hb.cw g hg), fun g hg => ?_, fun b hbb p hp => ?_, fun l hl' p hp => ?_, fun g hg => ?_⟩, hCW⟩
  · obtain ⟨c, hc⟩ := hb1.at_.got.block hx
    exact nT hc (by decide) (by decide)
  · obtain ⟨c, hc⟩ := hb1.at_.want.block hx
    exact nT hc (by decide) (by decide)
  · obtain ⟨_, c, hc⟩ := hb1.cb b hbb p hp
    exact nT hc (by decide) (by decide)
  · by_cases hlt : i < ls.length
    · rw [List.getElem?_append_left hlt] at hi
      refine (hb1.at_.fl i l hi).chgB hC13 (fun p hp => ?_)
      obtain ⟨_, c, hc⟩ := hb1.cf l (List.mem_of_getElem? hi) p hp
      exact nT hc (by decide) (by decide)
    · rw [List.getElem?_append_right (by omega)] at hi
      obtain ⟨j, hj⟩ : ∃ j, i - ls.length = j := ⟨_, rfl⟩
      rw [hj] at hi
      match j, hi with
      | 0, hi =>
        simp at hi
        have : i / 2 = k := by omega
        rw [this, ← hi, ← hl1]
        exact hRl1
      | 1, hi =>
        simp at hi
        have : i / 2 = k := by omega
        rw [this, ← hi, ← hl2]
        exact hRl2
      | j + 2, hi => simp at hi
  · rcases hlb g hg with h5 | h5
    · exact .inl (hb.cl g h5)
    · exact .inr (.inr ⟨by omega, hlst3.lt hg⟩)
  · obtain ⟨h5, c, hc⟩ := hb1.cb b hbb p hp
    exact ⟨.inl h5, c, hC13.block hc (nT hc (by decide) (by decide))⟩
  · rcases List.mem_append.1 hl' with h5 | h5
    · obtain ⟨h6, c, hc⟩ := hb1.cf l h5 p hp
      exact ⟨.inl h6, c, hC13.block hc (nT hc (by decide) (by decide))⟩
    · simp only [List.mem_cons, List.not_mem_nil, or_false] at h5
      rcases h5 with rfl | rfl
      · rw [e1a] at hp; cases hp
        exact ⟨.inr (.inl rfl), _, hC13.block hgo1 (nT hgo1 (by decide) (by decide))⟩
      · rw [e2a] at hp; cases hp
        have h6 := hC13.block e21 (nT e21 (by decide) (by decide))
        exact ⟨.inr (.inr ⟨by dsimp only; omega, (Array.getElem?_eq_some_iff.1 h6).1⟩), _, h6⟩
  · rcases hg with h5 | h5 | h5
    · exact Nat.lt_of_lt_of_le (hb.lt g h5) hCW.size
    · subst h5; exact Nat.lt_of_lt_of_le hglt hCW.size
    · exact h5.2
set_option maxHeartbeats 8000000 in
theorem takeList_any {C : Nat → Prop} {W : World} {h : Nat} {gv wv lv : Value} {gs : List Br} {ls : List Fs} {go n : Nat} (hb : Bk C W h gv wv lv gs ls) (hgo : ¬ C go) {cur : Array Value} (hty : W.heap[go]? = some (.cells cur 73)) (hcs : cur.size = n * 5) (hn : n ≤ 1048576) (hl : ls.length ≤ 1099511627776) (hev : ls.length % 2 = 0) : Calls Try.prog 44 #[.pointer (some ⟨h, 0, none⟩), .slice (some ⟨go, 0, none⟩) n n] W fun e w' => e = .returned (.tuple #[]) ∧ TalP C W h gv wv gs ls go w' := by
  obtain ⟨a3, c3, e3, _, _⟩ := hb.at_.lists.shape
  subst e3
  have q2 := (box3 hb.at_.box).2.2
  obtain ⟨k, hk⟩ : ∃ k, ls.length / 2 = k := ⟨_, rfl⟩
  obtain ⟨mk, hmk⟩ : ∃ mk : Int, -1 - (k : Int) = mk := ⟨_, rfl⟩
  have HM : Hid (∀ W2 bx wr, Below W.heap.size W W2 → W2.heap[bx]? = some (.cells #[.int .i64 mk, .int .i64 0, .int .i64 0, .slice none 0 0, .bool false] 73) → W.heap.size ≤ bx → FlI W2 go n k n wr → TalM C W h gv wv (.slice a3 ls.length c3) gs ls go n mk bx wr) := fun W2 bx wr x1 x2 x3 x4 => tal_mem hmk hk hev hb hgo ⟨_, hty⟩ x1 x2 x3 x4 hn hl
  have HF0 : Hid (∀ W2, Below W.heap.size W W2 → FlI W2 go n k 0 W2) := fun W2 hB2 => ⟨⟨cur.toList, by rw [hB2.block go (Array.getElem?_eq_some_iff.1 hty).1, hty]; simp [flatF], by simp [hcs]⟩, Chg.refl _ _⟩
  have HMK : Hid (-1 - (k : Int) = mk) := hmk
  have HG : Hid (go < W.heap.size) := (Array.getElem?_eq_some_iff.1 hty).1
  have HC := marked_any (W := W) (k := k) (by omega)
  rw [hmk] at HC
  obtain ⟨nl, hnl⟩ : ∃ nl, ls.length = nl := ⟨_, rfl⟩
  rw [hnl] at HM q2 hk hl
  have d1 : (nl : Int).tdiv 2 = (k : Int) := by rw [← hk]; simp [Int.tdiv_eq_ediv]
  have d2 : IntKind.i64.wrap (k : Int) = (k : Int) := IntWalk.i64_in _ (by omega)
  clear hb hgo hty hcs hev hk hmk hnl
  go_enter Try.func44, Try.ntmps44
  go_wp2_with fail
  refine HC.mono ?_
  rintro e w1 ⟨rfl, hB1⟩
  obtain ⟨A1, hA1⟩ : ∃ A1, w1.alloc (.cells #[.int .i64 0, .int .i64 0, .int .i64 0, .slice none 0 0, .bool false] 73) = A1 := ⟨_, rfl⟩
  have hBA : Below w1.heap.size w1 A1 := by rw [← hA1]; exact (Below.refl _ _).alloc (Nat.le_refl _) _
  have hx0 : A1.heap[w1.heap.size]? = some (.cells #[.int .i64 0, .int .i64 0, .int .i64 0, .slice none 0 0, .bool false] 73) := by rw [← hA1]; exact heap_alloc_new w1 _
  obtain ⟨V, hV, hx5, hC5⟩ := set5 (A := []) (B := []) (o := 0) (W := A1) (g := w1.heap.size) (by simpa using hx0) rfl (.int .i64 mk) (.int .i64 0) (.int .i64 0) (.slice none 0 0) (.bool false)
  simp only [Nat.zero_add] at hV
  have hx5' : V.heap[w1.heap.size]? = some (.cells #[.int .i64 mk, .int .i64 0, .int .i64 0, .slice none 0 0, .bool false] 73) := by simpa using hx5
  obtain ⟨⟨t0, t1, t2, t3, t4⟩, z0, z1, z2, z3, z4⟩ := five_cells hx0
  have hBV : Below W.heap.size W V := (hB1.trans (hBA.mono hB1.size)).trans (hC5.below (fun x e => by have := hB1.size; omega) (by have := hB1.size; have := hBA.size; omega))
  obtain ⟨bx, hbx⟩ : ∃ bx, w1.heap.size = bx := ⟨_, rfl⟩
  have hnew : W.heap.size ≤ bx := by rw [← hbx]; exact hB1.size
  rw [hbx] at hV hx5' t0 t1 t2 t3 t4 z0 z1 z2 z3 z4
  have HV : Hid (Below W.heap.size W V ∧ V.heap[bx]? = some (.cells #[.int .i64 mk, .int .i64 0, .int .i64 0, .slice none 0 0, .bool false] 73) ∧ W.heap.size ≤ bx) := ⟨hBV, hx5', hnew⟩
  have HF : Hid (FlI V go n k 0 V) := HF0.out V hBV
  clear hB1 hBA hx0 hx5 hC5 hx5' hBV hnew HC HF0 q2
  go_wp2_with fail
  (try simp only [hbx])
  (try simp only [hV])
  go_wp2_with fail
  go_loopw [5] (fun vi wr => ∃ i : Nat, i ≤ n ∧ vi = .int .i64 (i : Int) ∧ Hid (FlI V go n k i wr)) (fun vi _ => n - (RowKit.intOf vi).toNat)
  case atStart => exact ⟨0, Nat.zero_le _, rfl, HF.out⟩
  case round =>
    clear t0 t1 t2 t3 t4 z0 z1 z2 z3 z4
    obtain ⟨i, hi, rfl, hI⟩ := hrel
    by_cases hin : i < n
    · have hin2 : (i : Int) < (n : Int) := by omega
      have ei : IntKind.i64.wrap ((i : Int) + 1) = (i : Int) + 1 := IntWalk.i64_in _ (by omega)
      obtain ⟨v0, v1, v2, v3, v4⟩ := box5 (hI.out.2.block HV.out.2.1 (by have := HV.out.2.2; have := HG.out; omega))
      obtain ⟨u0, u1, u2, u3, u4, W9, ⟨p0, p1, p2, p3, p4⟩, hz, hW9, hN⟩ := hI.out.step HMK.out hin
      have z0 := hz (i * 5)
      have z1 := hz (i * 5 + 1)
      have z2 := hz (i * 5 + 2)
      have z3 := hz (i * 5 + 3)
      have z4 := hz (i * 5 + 4)
      have HN : Hid (FlI V go n k (i + 1) W9) := hN
      clear hN hz
      go_wp2_with fail
      exact ⟨⟨i + 1, by omega, by simp, HN.out⟩, by simp [RowKit.intOf]; omega⟩
    · have hin2 : ¬ (i : Int) < (n : Int) := by omega
      obtain rfl : i = n := by omega
      obtain ⟨cap', V1, lv', V2, ⟨a4, n4, c4, rfl⟩, hap1, hap2, ⟨x0, x1, x2⟩, ⟨w0, w1', w2⟩, hP⟩ := HM.out V bx wr HV.out.1 HV.out.2.1 HV.out.2.2 hI.out
      have HP : Hid (TalP C W h gv wv gs ls go (V2.setCell ⟨h, 2, none⟩ (.slice a4 n4 c4))) := hP
      have b0 : Below wr.drew.heap.size wr.drew (wr.drew.alloc (.cells (List.toArray (.int .i64 mk :: .int .i64 0 :: .int .i64 0 :: .slice none 0 0 :: .bool false :: .int .i64 mk :: .int .i64 0 :: .int .i64 0 :: .slice none 0 0 :: .bool false :: .int .i64 mk :: .int .i64 0 :: .int .i64 0 :: .slice none 0 0 :: .bool false :: .int .i64 mk :: .int .i64 0 :: .int .i64 0 :: .slice none 0 0 :: .bool false :: .int .i64 mk :: .int .i64 0 :: .int .i64 0 :: .slice none 0 0 :: .bool false :: .int .i64 mk :: .int .i64 0 :: .int .i64 0 :: .slice none 0 0 :: .bool false :: .int .i64 mk :: .int .i64 0 :: .int .i64 0 :: .slice none 0 0 :: .bool false :: .int .i64 mk :: .int .i64 0 :: .int .i64 0 :: .slice none 0 0 :: .bool false :: [])) 73)) := (Below.refl _ _).alloc (Nat.le_refl _) _
      have b1 : Below V1.heap.size V1 (V1.alloc (.cells #[.slice (some ⟨go, 0, none⟩) i i, .slice (some ⟨wr.heap.size + 1, 0, none⟩) (i + 8) cap'] 52)) := (Below.refl _ _).alloc (Nat.le_refl _) _
      have k0 := And.intro (box3 (W := wr.drew) x0).2.2 (box5 (W := wr.drew) w0)
      have k1 := And.intro (box3 ((b0.block h (Array.getElem?_eq_some_iff.1 x0).1).trans x0)).2.2 (box5 ((b0.block bx (Array.getElem?_eq_some_iff.1 w0).1).trans w0))
      have k2 := And.intro (box3 x1).2.2 (box5 w1')
      have k3 := And.intro (box3 ((b1.block h (Array.getElem?_eq_some_iff.1 x1).1).trans x1)).2.2 (box5 ((b1.block bx (Array.getElem?_eq_some_iff.1 w1').1).trans w1'))
      have k4 := And.intro (box3 x2).2.2 (box5 w2)
      have y2 := (box3 x2).2.2
      have f2 := Lib.frozen_of_heap x2 2
      clear hP x0 x1 x2 w0 w1' w2 b0 b1 HM HV HF hI d1 d2
      go_wp2_with fail
      refine wp_region_E (S := (fun w => w.cell? ⟨h, 2, none⟩ = some (.slice a3 nl c3) ∧ w.cell? ⟨bx, 0, none⟩ = some (.int .i64 mk) ∧ w.cell? ⟨bx, 1, none⟩ = some (.int .i64 0) ∧ w.cell? ⟨bx, 2, none⟩ = some (.int .i64 0) ∧ w.cell? ⟨bx, 3, none⟩ = some (.slice none 0 0) ∧ w.cell? ⟨bx, 4, none⟩ = some (.bool false))) (E := [19, 20, 21]) (by kernel_rfl) ?_
      refine takeE (i := 0) (d := some 23) (v := ?vT36) rfl rfl (by kernel_rfl) (by kernel_rfl) (by kernel_rfl) (by kernel_rfl) (fun _ _ _ h => h) (Or.inl ⟨by rfl, ?hyT36⟩) k0 ?rstT36
      case hyT36 => (intro w hSw; (try dsimp only at hSw); obtain ⟨y0, y1, y2, y3, y4, y5⟩ := hSw; go_simp; (try with_reducible rfl))
      try simp only [Act.put, List.setIfInBounds_toArray, List.set_cons_zero, List.set_cons_succ]
      refine takeE (i := 1) (d := some 24) (v := ?vT37) rfl rfl (by kernel_rfl) (by kernel_rfl) (by kernel_rfl) (by kernel_rfl) (fun _ _ _ h => h) (Or.inl ⟨by rfl, ?hyT37⟩) k0 ?rstT37
      case hyT37 => (intro w hSw; (try dsimp only at hSw); obtain ⟨y0, y1, y2, y3, y4, y5⟩ := hSw; go_simp; (try with_reducible rfl))
      try simp only [Act.put, List.setIfInBounds_toArray, List.set_cons_zero, List.set_cons_succ]
      refine takeE (i := 2) (d := some 25) (v := ?vT38) rfl rfl (by kernel_rfl) (by kernel_rfl) (by kernel_rfl) (by kernel_rfl) (fun _ _ _ h => h) (Or.inl ⟨by rfl, ?hyT38⟩) k0 ?rstT38
      case hyT38 => (intro w hSw; (try dsimp only at hSw); obtain ⟨y0, y1, y2, y3, y4, y5⟩ := hSw; go_simp; (try with_reducible rfl))
      try simp only [Act.put, List.setIfInBounds_toArray, List.set_cons_zero, List.set_cons_succ]
      refine takeE (i := 3) (d := some 26) (v := ?vT39) rfl rfl (by kernel_rfl) (by kernel_rfl) (by kernel_rfl) (by kernel_rfl) (fun _ _ _ h => h) (Or.inl ⟨by rfl, ?hyT39⟩) k0 ?rstT39
      case hyT39 => (intro w hSw; (try dsimp only at hSw); obtain ⟨y0, y1, y2, y3, y4, y5⟩ := hSw; go_simp; (try with_reducible rfl))
      try simp only [Act.put, List.setIfInBounds_toArray, List.set_cons_zero, List.set_cons_succ]
      refine takeE (i := 4) (d := some 27) (v := ?vT40) rfl rfl (by kernel_rfl) (by kernel_rfl) (by kernel_rfl) (by kernel_rfl) (fun _ _ _ h => h) (Or.inl ⟨by rfl, ?hyT40⟩) k0 ?rstT40
      case hyT40 => (intro w hSw; (try dsimp only at hSw); obtain ⟨y0, y1, y2, y3, y4, y5⟩ := hSw; go_simp; (try with_reducible rfl))
      try simp only [Act.put, List.setIfInBounds_toArray, List.set_cons_zero, List.set_cons_succ]
      refine takeE (i := 5) (d := some 28) (v := ?vT41) rfl rfl (by kernel_rfl) (by kernel_rfl) (by kernel_rfl) (by kernel_rfl) (fun _ _ _ h => h) (Or.inl ⟨by rfl, ?hyT41⟩) k0 ?rstT41
      case hyT41 => (intro w hSw; (try dsimp only at hSw); obtain ⟨y0, y1, y2, y3, y4, y5⟩ := hSw; go_simp; (try with_reducible rfl))
      try simp only [Act.put, List.setIfInBounds_toArray, List.set_cons_zero, List.set_cons_succ]
      refine takeE (i := 6) (d := some 29) (v := ?vT42) rfl rfl (by kernel_rfl) (by kernel_rfl) (by kernel_rfl) (by kernel_rfl) (fun _ _ _ h => h) (Or.inl ⟨by rfl, ?hyT42⟩) k0 ?rstT42
      case hyT42 => (intro w hSw; (try dsimp only at hSw); obtain ⟨y0, y1, y2, y3, y4, y5⟩ := hSw; go_simp; (try with_reducible rfl))
      try simp only [Act.put, List.setIfInBounds_toArray, List.set_cons_zero, List.set_cons_succ]
      refine takeE (i := 7) (d := some 30) (v := ?vT43) rfl rfl (by kernel_rfl) (by kernel_rfl) (by kernel_rfl) (by kernel_rfl) (fun _ _ _ h => h) (Or.inl ⟨by rfl, ?hyT43⟩) k0 ?rstT43
      case hyT43 => (intro w hSw; (try dsimp only at hSw); obtain ⟨y0, y1, y2, y3, y4, y5⟩ := hSw; go_simp; (try with_reducible rfl))
      try simp only [Act.put, List.setIfInBounds_toArray, List.set_cons_zero, List.set_cons_succ]
      refine takeE (i := 8) (d := some 31) (v := ?vT44) rfl rfl (by kernel_rfl) (by kernel_rfl) (by kernel_rfl) (by kernel_rfl) (fun _ _ _ h => h) (Or.inl ⟨by rfl, ?hyT44⟩) k0 ?rstT44
      case hyT44 => (intro w hSw; (try dsimp only at hSw); obtain ⟨y0, y1, y2, y3, y4, y5⟩ := hSw; go_simp; (try with_reducible rfl))
      try simp only [Act.put, List.setIfInBounds_toArray, List.set_cons_zero, List.set_cons_succ]
      refine takeE (i := 9) (d := some 32) (v := ?vT45) rfl rfl (by kernel_rfl) (by kernel_rfl) (by kernel_rfl) (by kernel_rfl) (fun _ _ _ h => h) (Or.inl ⟨by rfl, ?hyT45⟩) k0 ?rstT45
      case hyT45 => (intro w hSw; (try dsimp only at hSw); obtain ⟨y0, y1, y2, y3, y4, y5⟩ := hSw; go_simp; (try with_reducible rfl))
      try simp only [Act.put, List.setIfInBounds_toArray, List.set_cons_zero, List.set_cons_succ]
      refine takeE (i := 10) (d := some 33) (v := ?vT46) rfl rfl (by kernel_rfl) (by kernel_rfl) (by kernel_rfl) (by kernel_rfl) (fun _ _ _ h => h) (Or.inl ⟨by rfl, ?hyT46⟩) k0 ?rstT46
      case hyT46 => (intro w hSw; (try dsimp only at hSw); obtain ⟨y0, y1, y2, y3, y4, y5⟩ := hSw; go_simp; (try with_reducible rfl))
      try simp only [Act.put, List.setIfInBounds_toArray, List.set_cons_zero, List.set_cons_succ]
      refine takeE (i := 11) (d := some 34) (v := ?vT47) rfl rfl (by kernel_rfl) (by kernel_rfl) (by kernel_rfl) (by kernel_rfl) (fun _ _ _ h => h) (Or.inl ⟨by rfl, ?hyT47⟩) k0 ?rstT47
      case hyT47 => (intro w hSw; (try dsimp only at hSw); obtain ⟨y0, y1, y2, y3, y4, y5⟩ := hSw; go_simp; (try with_reducible rfl))
      try simp only [Act.put, List.setIfInBounds_toArray, List.set_cons_zero, List.set_cons_succ]
      refine takeE (i := 12) (d := some 35) (v := ?vT48) rfl rfl (by kernel_rfl) (by kernel_rfl) (by kernel_rfl) (by kernel_rfl) (fun _ _ _ h => h) (Or.inl ⟨by rfl, ?hyT48⟩) k0 ?rstT48
      case hyT48 => (intro w hSw; (try dsimp only at hSw); obtain ⟨y0, y1, y2, y3, y4, y5⟩ := hSw; go_simp; (try with_reducible rfl))
      try simp only [Act.put, List.setIfInBounds_toArray, List.set_cons_zero, List.set_cons_succ]
      refine takeE (i := 13) (d := some 36) (v := ?vT49) rfl rfl (by kernel_rfl) (by kernel_rfl) (by kernel_rfl) (by kernel_rfl) (fun _ _ _ h => h) (Or.inl ⟨by rfl, ?hyT49⟩) k0 ?rstT49
      case hyT49 => (intro w hSw; (try dsimp only at hSw); obtain ⟨y0, y1, y2, y3, y4, y5⟩ := hSw; go_simp; (try with_reducible rfl))
      try simp only [Act.put, List.setIfInBounds_toArray, List.set_cons_zero, List.set_cons_succ]
      refine takeE (i := 14) (d := some 37) (v := ?vT50) rfl rfl (by kernel_rfl) (by kernel_rfl) (by kernel_rfl) (by kernel_rfl) (fun _ _ _ h => h) (Or.inl ⟨by rfl, ?hyT50⟩) k0 ?rstT50
      case hyT50 => (intro w hSw; (try dsimp only at hSw); obtain ⟨y0, y1, y2, y3, y4, y5⟩ := hSw; go_simp; (try with_reducible rfl))
      try simp only [Act.put, List.setIfInBounds_toArray, List.set_cons_zero, List.set_cons_succ]
      refine oneE (i := 15) (by kernel_rfl) rfl (fun K hK => ?_)
      go_simp
      refine hK.out _ _ ?hS51 ?rest51
      case hS51 => exact fun _ => k1
      clear hK K
      try simp only [Act.put, List.setIfInBounds_toArray, List.set_cons_zero, List.set_cons_succ]
      refine oneE (i := 16) (by kernel_rfl) rfl (fun K hK => ?_)
      rw [if_pos (by rfl)]
      refine wp_append_hr (.tmp 29) (.tmp 38) 52 (some 39) rfl rfl _ _ rfl rfl hap1 ?_
      refine hK.out _ _ ?hS52 ?rest52
      case hS52 => exact fun _ => k2
      clear hK K
      try simp only [Act.put, List.setIfInBounds_toArray, List.set_cons_zero, List.set_cons_succ]
      refine oneE (i := 17) (by kernel_rfl) rfl (fun K hK => ?_)
      go_simp
      refine hK.out _ _ ?hS53 ?rest53
      case hS53 => exact fun _ => k3
      clear hK K
      try simp only [Act.put, List.setIfInBounds_toArray, List.set_cons_zero, List.set_cons_succ]
      refine oneE (i := 18) (by kernel_rfl) rfl (fun K hK => ?_)
      rw [if_pos (by rfl)]
      refine wp_append_hr (.tmp 27) (.tmp 40) 59 (some 41) rfl rfl _ _ rfl rfl hap2 ?_
      refine hK.out _ _ ?hS54 ?rest54
      case hS54 => exact fun _ => k4
      clear hK K
      try simp only [Act.put, List.setIfInBounds_toArray, List.set_cons_zero, List.set_cons_succ]
      refine oneE (i := 19) (by kernel_rfl) rfl (fun K hK => ?_)
      go_simp
      refine hK.out _ _ ?hS55 ?rest55
      case hS55 => exact fun e => absurd e (by decide)
      clear hK K
      try simp only [Act.put, List.setIfInBounds_toArray, List.set_cons_zero, List.set_cons_succ]
      refine oneE (i := 20) (by kernel_rfl) rfl (fun K hK => ?_)
      go_simp
      refine hK.out _ _ ?hS56 ?rest56
      case hS56 => exact fun e => absurd e (by decide)
      clear hK K
      try simp only [Act.put, List.setIfInBounds_toArray, List.set_cons_zero, List.set_cons_succ]
      refine oneE (i := 21) (by kernel_rfl) rfl (fun K hK => ?_)
      go_simp
      refine hK.out _ _ ?hS57 ?rest57
      case hS57 => exact fun e => absurd e (by decide)
      clear hK K
      try simp only [Act.put, List.setIfInBounds_toArray, List.set_cons_zero, List.set_cons_succ]
      refine doneE (by kernel_rfl) ?_ _
      go_wp2_with fail
      refine bodyPost_end (v := .tuple #[]) (by simp [results, Try.results44, go_sem]) rfl ?_
      exact ⟨rfl, HP.out⟩
end Go.Proofs.Ytdmhajlhpieedaa
