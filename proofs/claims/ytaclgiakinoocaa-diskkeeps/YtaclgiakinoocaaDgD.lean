import Derived.Test.YtaclgiakinoocaaDgAC
/-! The reference's store. -/
namespace Go.Proofs.Ytaclgiakinoocaa
open Go.RowKit Go.Lib
set_option maxRecDepth 100000

/-- Where a file takes its place among the others. -/
def storeL (f : Rf) : Bool → List Rf → List Rf
  | dn, [] => if dn then [] else [f]
  | dn, g :: t => (if !dn && Op.bytesLess f.nm g.nm then [f] else []) ++ ((if g.nm = f.nm then (if dn || Op.bytesLess f.nm g.nm then [] else [f]) else [g]) ++ storeL f (dn || Op.bytesLess f.nm g.nm || decide (g.nm = f.nm)) t)
theorem mem_storeL {f : Rf} : ∀ {xs : List Rf} {dn : Bool} {x : Rf}, x ∈ storeL f dn xs → x ∈ xs ∨ (dn = false ∧ x = f)
  | [], dn, x, h => by
    unfold storeL at h
    cases dn <;> simp_all
  | g :: t, dn, x, h => by
    unfold storeL at h
    rcases List.mem_append.1 h with h | h
    · split at h
      · rename_i hc
        simp at h
        subst h
        cases dn <;> simp_all
      · simp at h
    · rcases List.mem_append.1 h with h | h
      · split at h
        · split at h
          · simp at h
          · rename_i hc
            simp at h
            subst h
            cases dn <;> simp_all
        · simp at h
          subst h
          exact .inl (List.mem_cons_self ..)
      · rcases mem_storeL h with h | ⟨h, rfl⟩
        · exact .inl (List.mem_cons_of_mem _ h)
        · cases dn <;> simp_all
theorem storeL_len {f : Rf} : ∀ {xs : List Rf} {dn : Bool}, (storeL f dn xs).length ≤ xs.length + (if dn then 0 else 1)
  | [], dn => by unfold storeL; cases dn <;> simp
  | g :: t, dn => by
    have := storeL_len (f := f) (xs := t) (dn := dn || Op.bytesLess f.nm g.nm || decide (g.nm = f.nm))
    unfold storeL
    rw [List.length_append, List.length_append, List.length_cons]
    cases dn <;> cases hb : Op.bytesLess f.nm g.nm <;> by_cases he : g.nm = f.nm <;> simp_all <;> omega
variable {w : World} {r c : Nat} {T : Dk} {K : Int} {a : Option Addr} {xs : List Rf}
/-- Where store stands. -/
structure StI (W0 wr : World) (f : Rf) (d0 : Bool) (xs : List Rf) (i : Nat) (v : Value) (dn : Bool) (zs : List Rf) : Prop where
  own : OwnF rfV 4 134 wr W0.heap.size v zs
  below : Below W0.heap.size W0 wr
  st : zs ++ storeL f dn (xs.drop i) = storeL f d0 xs
  df : dn = false → d0 = false
theorem less_irrefl : ∀ a : List UInt8, Op.bytesLess a a = false
  | [] => rfl
  | x :: t => by
    have := less_irrefl t
    unfold Op.bytesLess
    simp [this]
theorem less_of (a b : List UInt8) : Op.bytesLess (⟨a.toArray⟩ : ByteArray).toList (⟨b.toArray⟩ : ByteArray).toList = Op.bytesLess a b := by
  rw [ByteArray.toList_eq, ByteArray.toList_eq]
theorem drop_at {xs : List Rf} {i : Nat} {o : Rf} (h : xs[i]? = some o) : xs.drop i = o :: xs.drop (i + 1) := by
  obtain ⟨hi, rfl⟩ := List.getElem?_eq_some_iff.1 h
  exact List.drop_eq_getElem_cons hi
theorem own_shapeR {W : World} {B : Nat} {v : Value} {l : List Rf} (h : OwnF rfV 4 134 W B v l) : ∃ a cap, v = .slice a l.length cap ∧ Rw rfV 4 W a l.length cap l ∧ ∀ q, a = some q → B ≤ q.block ∧ q.block < W.heap.size := by
  have h0 := h
  rcases h.2 with ⟨rfl, h1⟩ | ⟨g, cap, cur, rfl, h1, hh, _⟩
  · have hl : l = [] := List.length_eq_zero_iff.1 h1
    subst hl
    exact ⟨none, 0, rfl, rw_nil W, fun q e => by cases e⟩
  · exact ⟨_, cap, rfl, h0.rw_ layRf, fun q e => by cases e; exact ⟨h1, (Array.getElem?_eq_some_iff.1 hh).1⟩⟩
/-- What store leaves. -/
def StoreP (w w' : World) (r : Nat) (T : Dk) (K : Int) (l : List Rf) : Prop := ∃ a' c', RefAt w' r { T with fs := l.map Rf.fl } K a' c' l ∧ Chg (fun g => g = r) w w' ∧ ∀ q, a' = some q → w.heap.size ≤ q.block
theorem StI.ends {W0 wo W9 : World} {f : Rf} {d0 : Bool} {zs : List Rf} {a' : Option Addr} {c' : Nat} (h : RefAt w r T K a c xs) (hb0 : Below w.heap.size w W0) (hf : d0 = false → Rw byU 1 w f.a f.bs.length f.cap f.bs ∧ f.syn ≤ f.bs.length ∧ ∀ q, f.a = some q → q.block ≠ r ∧ q.block < w.heap.size)
    (ho : OwnF rfV 4 134 wo W0.heap.size (.slice a' zs.length c') zs) (hb : Below W0.heap.size W0 wo) (hst : zs = storeL f d0 xs) (hC : Chg (fun g => g = r) wo W9) (hbox : W9.heap[r]? = some (.cells #[.int .i64 (T.limit : Int), .slice a' zs.length c', .bool T.down, .int .i64 (T.steps : Int), .int .i64 K] 139)) :
    StoreP w W9 r T K (storeL f d0 xs) := by
  have hrw := h.lt r (.inl rfl)
  have hsz := hb0.size
  have hsz2 := hb.size
  obtain ⟨a2, c2, e2, hrow, hq⟩ := own_shapeR ho
  simp only [Value.slice.injEq, true_and] at e2
  obtain ⟨rfl, rfl⟩ := e2
  have hwo : Below w.heap.size w wo := hb0.trans (hb.mono hsz)
  have hall : Chg (fun g => g = r) w W9 := (Chg.of_below hwo).trans hC
  have hmem : ∀ x ∈ zs, x ∈ xs ∨ (d0 = false ∧ x = f) := fun x hx => mem_storeL (hst ▸ hx)
  have hby : ∀ x ∈ zs, Rw byU 1 w x.a x.bs.length x.cap x.bs ∧ x.syn ≤ x.bs.length ∧ ∀ q, x.a = some q → q.block ≠ r ∧ q.block < w.heap.size := fun x hx => by
    rcases hmem x hx with hx | ⟨hd, rfl⟩
    · exact ⟨h.bys x hx, h.syn x hx, fun q e => ⟨h.rx x hx q e, h.lt _ (.inr (.inr ⟨x, hx, q, e, rfl⟩))⟩⟩
    · exact hf hd
  subst hst
  refine ⟨a', c', ⟨hbox, hrow.chg hC (fun q e => by have := hq q e; omega), fun x hx => (hby x hx).1.chg hall (fun q e => ((hby x hx).2.2 q e).1), fun x hx => (hby x hx).2.1, fun q e => by have := hq q e; omega, fun x hx q e => ((hby x hx).2.2 q e).1, fun g hg => ?_, h.kp, rfl⟩, hall, fun q e => by have := hq q e; omega⟩
  have hs9 := hC.size
  rcases hg with rfl | ⟨q, e, rfl⟩ | ⟨x, hx, q, e, rfl⟩
  · omega
  · have := hq q e; omega
  · have := ((hby x hx).2.2 q e).2; omega
theorem setR1 {W : World} {p : Nat} {v0 v1 v2 v3 v4 : Value} (h : W.heap[p]? = some (.cells #[v0, v1, v2, v3, v4] 139)) (u : Value) :
    ∃ W9, W.setCell ⟨p, 1, none⟩ u = W9 ∧ W9.heap[p]? = some (.cells #[v0, u, v2, v3, v4] 139) ∧ Chg (fun g => g = p) W W9 := by
  refine ⟨_, rfl, ?_, Chg.set 1 W u rfl⟩
  rw [heap_setCell_cells h 1 u]
  rfl
set_option maxHeartbeats 8000000 in
theorem rStore (h : RefAt w r T K a c xs) (hn : xs.length ≤ 1073741824) (f : Rf) (th : Bool) (hf : th = true → Rw byU 1 w f.a f.bs.length f.cap f.bs ∧ f.syn ≤ f.bs.length ∧ ∀ q, f.a = some q → q.block ≠ r ∧ q.block < w.heap.size) :
    Calls Try.prog 92 #[.pointer (some ⟨r, 0, none⟩), .agg #[.string ⟨f.nm.toArray⟩, .bool th, .slice f.a f.bs.length f.cap, .int .i64 (f.syn : Int)]] w fun e w' => e = .returned (.tuple #[]) ∧ StoreP w w' r T K (storeL f (!th) xs) := by
  obtain ⟨W0, hW0⟩ : ∃ W0, w.alloc (.cells #[.string ⟨f.nm.toArray⟩, .bool th, .slice f.a f.bs.length f.cap, .int .i64 (f.syn : Int)] 134) = W0 := ⟨_, rfl⟩
  have hs0 : W0.heap.size = w.heap.size + 1 := by rw [← hW0, World.size_alloc]
  have hb0 : Below w.heap.size w W0 := by rw [← hW0]; exact (Below.refl _ _).alloc (Nat.le_refl _) _
  have hq : W0.heap[w.heap.size]? = some (.cells #[.string ⟨f.nm.toArray⟩, .bool th, .slice f.a f.bs.length f.cap, .int .i64 (f.syn : Int)] 134) := by rw [← hW0]; exact (MapKept.heap_alloc w _).1
  obtain ⟨d0, hd0⟩ : ∃ d0, (!th) = d0 := ⟨_, rfl⟩
  have HH : Hid (RefAt w r T K a c xs ∧ Below w.heap.size w W0 ∧ W0.heap[w.heap.size]? = some (.cells #[.string ⟨f.nm.toArray⟩, .bool th, .slice f.a f.bs.length f.cap, .int .i64 (f.syn : Int)] 134) ∧ xs.length ≤ 1073741824 ∧ (!th) = d0 ∧ W0.heap.size = w.heap.size + 1) := ⟨h, hb0, hq, hn, hd0, hs0⟩
  have HF : Hid (th = true → Rw byU 1 w f.a f.bs.length f.cap f.bs ∧ f.syn ≤ f.bs.length ∧ ∀ q, f.a = some q → q.block ≠ r ∧ q.block < w.heap.size) := hf
  have hR := h.below hb0
  obtain ⟨c0, c1, c2, c3, c4⟩ := box5 hR.box
  have HR0 : Hid (RefAt W0 r T K a c xs) := hR
  obtain ⟨f0, f1, f2, f3⟩ := box4 hq
  have hnc : (xs.length : Int) ≤ 1073741824 := by omega
  clear h c0 c2 c3 c4 hn hb0 hq hf hs0 hR
  obtain ⟨n, hn⟩ : ∃ n, xs.length = n := ⟨_, rfl⟩
  have HN : Hid (xs.length = n) := hn
  rw [hn] at c1 hnc
  clear hn
  go_enter Try.func92, Try.ntmps92
  go_wp2_with fail
  clear hd0 hW0 f0 f1 f2 f3 c1
  go_loopw [4, 5, 6] (fun vo vd vi wr => ∃ i : Nat, i ≤ n ∧ vi = .int .i64 (i : Int) ∧ ∃ (dn : Bool) (zs : List Rf), vd = .bool dn ∧ Hid (StI W0 wr f d0 xs i vo dn zs)) (fun _ _ vi _ => n - (RowKit.intOf vi).toNat)
  case atStart => exact ⟨0, Nat.zero_le _, rfl, d0, [], rfl, ownF_nil _ _, Below.refl _ _, by simp, fun e => e⟩
  case round =>
    obtain ⟨wo, hwo⟩ : ∃ wo, wo = wr := ⟨_, rfl⟩
    subst hwo
    obtain ⟨i, hi, rfl, dn, zs, rfl, hS⟩ := hrel
    obtain ⟨v, hv⟩ : ∃ v, v = u4 := ⟨_, rfl⟩
    subst hv
    have hbw : Below w.heap.size w wo := HH.out.2.1.trans (hS.out.below.mono (by have := HH.out.2.2.2.2.2; omega))
    have hRw := HR0.out.below hS.out.below
    have c1 := (box5 hRw.box).2.1
    rw [HN.out] at c1
    have hfb : wo.heap[w.heap.size]? = some (.cells #[.string ⟨f.nm.toArray⟩, .bool th, .slice f.a f.bs.length f.cap, .int .i64 (f.syn : Int)] 134) := (hS.out.below.block _ (by have := HH.out.2.2.2.2.2; omega)).trans HH.out.2.2.1
    have HFB : Hid (wo.heap[w.heap.size]? = some (.cells #[.string ⟨f.nm.toArray⟩, .bool th, .slice f.a f.bs.length f.cap, .int .i64 (f.syn : Int)] 134) ∧ w.heap.size < wo.heap.size) := ⟨hfb, (Array.getElem?_eq_some_iff.1 hfb).1⟩
    by_cases hlt : i < n
    · have hlt2 : (i : Int) < (n : Int) := by omega
      have gi : IntKind.i64.wrap ((i : Int) + 1) = ((i + 1 : Nat) : Int) := by rw [IntWalk.i64_in _ (by omega)]; omega
      have hrow := hRw.row
      rw [HN.out] at hrow
      obtain ⟨g, off, o, hoa, hgl, hoi, hcell⟩ := hrow.at i hlt
      subst hoa
      have o0 := hcell 0 _ rfl
      have o1 := hcell 1 _ rfl
      have o2 := hcell 2 _ rfl
      have o3 := hcell 3 _ rfl
      rw [Nat.add_zero] at o0
      have HDR : Hid (xs.drop i = o :: xs.drop (i + 1)) := drop_at hoi
      obtain ⟨V5, hV5⟩ : ∃ V5, wo.alloc (.cells #[.string ⟨#[]⟩, .bool false, .slice none 0 0, .int .i64 0] 134) = V5 := ⟨_, rfl⟩
      have hV5b : Below wo.heap.size wo V5 := by rw [← hV5]; exact (Below.refl _ _).alloc (Nat.le_refl _) _
      have hV5s : V5.heap.size = wo.heap.size + 1 := by rw [← hV5, World.size_alloc]
      have hV5h : V5.heap[wo.heap.size]? = some (.cells #[.string ⟨#[]⟩, .bool false, .slice none 0 0, .int .i64 0] 134) := by rw [← hV5]; exact (MapKept.heap_alloc wo _).1
      obtain ⟨V6, hV6, hh9, hC9⟩ := set4 hV5h (.string ⟨o.nm.toArray⟩) (.bool true) (.slice o.a o.bs.length o.cap) (.int .i64 (o.syn : Int))
      obtain ⟨y0, y1, y2, y3⟩ := box4 hV5h
      have k0 := Lib.frozen_of_heap hV5h 0
      have k1 := Lib.frozen_of_heap hV5h 1
      have k2 := Lib.frozen_of_heap hV5h 2
      have k3 := Lib.frozen_of_heap hV5h 3
      obtain ⟨r0, r1, r2, r3⟩ := box4 hh9
      have hb6 : Below wo.heap.size wo V6 := hV5b.trans (hC9.below (fun x e => by omega) hV5b.size)
      have HO6 : Hid (OwnF rfV 4 134 V6 W0.heap.size v zs ∧ W0.heap.size ≤ V6.heap.size ∧ V6.heap[wo.heap.size]? = some (.cells #[.string ⟨o.nm.toArray⟩, .bool true, .slice o.a o.bs.length o.cap, .int .i64 (o.syn : Int)] 134) ∧ wo.heap.size < V6.heap.size ∧ v.ownBlock ≠ some wo.heap.size ∧ Below W0.heap.size W0 V6) :=
        ⟨hS.out.own.below hb6, Nat.le_trans hS.out.below.size hb6.size, hh9, (Array.getElem?_eq_some_iff.1 hh9).1, fun e => by have := hS.out.own.lt e; omega, hS.out.below.trans (hb6.mono hS.out.below.size)⟩
      have hf6 : V6.heap[w.heap.size]? = some (.cells #[.string ⟨f.nm.toArray⟩, .bool th, .slice f.a f.bs.length f.cap, .int .i64 (f.syn : Int)] 134) := (hb6.block _ HFB.out.2).trans HFB.out.1
      have HLN : Hid (zs.length ≤ 1073741825) := by
        have h1 := congrArg List.length hS.out.st
        have h2 := storeL_len (f := f) (xs := xs) (dn := d0)
        have h3 := HH.out.2.2.2.1
        rw [List.length_append] at h1
        show zs.length ≤ _
        split at h2 <;> omega
      obtain ⟨p0, p1, p2, p3⟩ := box4 hf6
      have hlo := less_of f.nm o.nm
      clear hcell hgl hoi hrow hRw hbw hh9 hC9 hb6 hV5b hV5h hV5s hfb
      cases dn with
      | true =>
        clear hf6
        by_cases he : o.nm = f.nm
        · have HLB : Hid (True) := trivial
          have HEQ : Hid (o.nm = f.nm) := he
          have q1 : ((⟨o.nm.toArray⟩ : ByteArray).toList == (⟨f.nm.toArray⟩ : ByteArray).toList) = true := by rw [he]; simp
          clear he hlo
          have HS : Hid (StI W0 V6 f d0 xs (i + 1) v true (zs)) := ⟨HO6.out.1, HO6.out.2.2.2.2.2, by rw [← hS.out.st, HDR.out, storeL]; simp [HEQ.out], (fun e => by cases e)⟩
          generalize (⟨f.nm.toArray⟩ : ByteArray) = sf at *
          generalize (⟨o.nm.toArray⟩ : ByteArray) = so at *
          go_wp2_with fail
          go_roundw
          case rel => exact ⟨i + 1, by omega, by first | rfl | go_num, true, _, by first | rfl | trivial, HS.out⟩
          case measure => simp [RowKit.intOf]; omega
        · have HLB : Hid (True) := trivial
          have HEQ : Hid (¬ o.nm = f.nm) := he
          have q1 := name_ne he
          clear he hlo
          obtain ⟨g8, cap8, w8, hr8, ho8, hb8, hk8, hs8, hat8⟩ := appendF_one kindRf layRf HO6.out.1 HO6.out.2.1 (o : Rf) #[.string ⟨o.nm.toArray⟩, .bool true, .slice o.a o.bs.length o.cap, .int .i64 (o.syn : Int)] rfl 134 (by have := HLN.out; (try simp only [List.length_append, List.length_singleton]); omega) (by have := HLN.out; (try simp only [List.length_append, List.length_singleton]); omega) 137
          have HS : Hid (StI W0 w8 f d0 xs (i + 1) (.slice (some ⟨g8, 0, none⟩) (zs.length + 1) cap8) true (zs ++ [o])) := ⟨ho8, (HO6.out.2.2.2.2.2.trans hb8), by rw [← hS.out.st, HDR.out, storeL]; simp [HEQ.out], (fun e => by cases e)⟩
          clear ho8 hb8 hk8 hs8 hat8
          generalize (⟨f.nm.toArray⟩ : ByteArray) = sf at *
          generalize (⟨o.nm.toArray⟩ : ByteArray) = so at *
          go_wp2_with (at_builtin; refine wpList_append_hr rfl _ _ 137 rfl _ _ rfl rfl hr8 ?_)
          go_roundw
          case rel => exact ⟨i + 1, by omega, by first | rfl | go_num, true, _, by first | rfl | trivial, HS.out⟩
          case measure => simp [RowKit.intOf]; omega
      | false =>
        have hth : th = true := by
          have h1 := hS.out.df rfl
          have h2 := HH.out.2.2.2.2.1
          rw [h1] at h2
          cases th <;> simp_all
        rw [hth] at p1 hf6
        have HF6 : Hid (V6.heap[w.heap.size]? = some (.cells #[.string ⟨f.nm.toArray⟩, .bool true, .slice f.a f.bs.length f.cap, .int .i64 (f.syn : Int)] 134)) := hf6
        clear hf6
        cases hlb : Op.bytesLess f.nm o.nm with
        | true =>
          have hne : ¬ o.nm = f.nm := fun e => by rw [e, less_irrefl] at hlb; cases hlb
          rw [hlb] at hlo
          have HLB : Hid (Op.bytesLess f.nm o.nm = true) := hlb
          have HEQ : Hid (¬ o.nm = f.nm) := hne
          have q1 := name_ne hne
          clear hne hlb hth
          obtain ⟨g8, cap8, w8, hr8, ho8, hb8, hk8, hs8, hat8⟩ := appendF_one kindRf layRf HO6.out.1 HO6.out.2.1 (f : Rf) #[.string ⟨f.nm.toArray⟩, .bool true, .slice f.a f.bs.length f.cap, .int .i64 (f.syn : Int)] rfl 134 (by have := HLN.out; (try simp only [List.length_append, List.length_singleton]); omega) (by have := HLN.out; (try simp only [List.length_append, List.length_singleton]); omega) 137
          have hq8 : w8.heap[wo.heap.size]? = some (.cells #[.string ⟨o.nm.toArray⟩, .bool true, .slice o.a o.bs.length o.cap, .int .i64 (o.syn : Int)] 134) := (hk8 _ HO6.out.2.2.2.1 HO6.out.2.2.2.2.1).trans HO6.out.2.2.1
          obtain ⟨t0, t1, t2, t3⟩ := box4 hq8
          have hf8 : w8.heap[w.heap.size]? = some (.cells #[.string ⟨f.nm.toArray⟩, .bool true, .slice f.a f.bs.length f.cap, .int .i64 (f.syn : Int)] 134) := (hb8.block _ (by have := HH.out.2.2.2.2.2; omega)).trans HF6.out
          obtain ⟨u0, u1, u2, u3⟩ := box4 hf8
          obtain ⟨g9, cap9, w9, hr9, ho9, hb9, hk9, hs9, hat9⟩ := appendF_one kindRf layRf ho8 (Nat.le_trans HO6.out.2.1 (Nat.le_of_lt hs8)) (o : Rf) #[.string ⟨o.nm.toArray⟩, .bool true, .slice o.a o.bs.length o.cap, .int .i64 (o.syn : Int)] rfl 134 (by have := HLN.out; (try simp only [List.length_append, List.length_singleton]); omega) (by have := HLN.out; (try simp only [List.length_append, List.length_singleton]); omega) 137
          have HS : Hid (StI W0 w9 f d0 xs (i + 1) (.slice (some ⟨g9, 0, none⟩) ((zs ++ [f]).length + 1) cap9) true (zs ++ [f] ++ [o])) := ⟨ho9, ((HO6.out.2.2.2.2.2.trans hb8).trans hb9), by rw [← hS.out.st, HDR.out, storeL]; simp [HEQ.out, HLB.out], (fun e => by cases e)⟩
          have e1 : (zs ++ [f]).length = zs.length + 1 := by simp
          rw [e1] at hr9 HS
          clear ho8 hb8 hk8 hs8 hat8 ho9 hb9 hk9 hs9 hat9 hq8 hf8 e1
          generalize (⟨f.nm.toArray⟩ : ByteArray) = sf at *
          generalize (⟨o.nm.toArray⟩ : ByteArray) = so at *
          go_upto_region 9 with (at_builtin; refine wpList_append_hr rfl _ _ 137 rfl _ _ rfl rfl hr8 ?_)
          clear hr8
          go_wp2_with (at_builtin; refine wpList_append_hr rfl _ _ 137 rfl _ _ rfl rfl hr9 ?_)
          go_roundw
          case rel => exact ⟨i + 1, by omega, by first | rfl | go_num, true, _, by first | rfl | trivial, HS.out⟩
          case measure => simp [RowKit.intOf]; omega
        | false =>
          rw [hlb] at hlo
          have HLB : Hid (Op.bytesLess f.nm o.nm = false) := hlb
          by_cases he : o.nm = f.nm
          · have HEQ : Hid (o.nm = f.nm) := he
            have q1 : ((⟨o.nm.toArray⟩ : ByteArray).toList == (⟨f.nm.toArray⟩ : ByteArray).toList) = true := by rw [he]; simp
            clear he hlb hth
            obtain ⟨g8, cap8, w8, hr8, ho8, hb8, hk8, hs8, hat8⟩ := appendF_one kindRf layRf HO6.out.1 HO6.out.2.1 (f : Rf) #[.string ⟨f.nm.toArray⟩, .bool true, .slice f.a f.bs.length f.cap, .int .i64 (f.syn : Int)] rfl 134 (by have := HLN.out; (try simp only [List.length_append, List.length_singleton]); omega) (by have := HLN.out; (try simp only [List.length_append, List.length_singleton]); omega) 137
            have HS : Hid (StI W0 w8 f d0 xs (i + 1) (.slice (some ⟨g8, 0, none⟩) (zs.length + 1) cap8) true (zs ++ [f])) := ⟨ho8, (HO6.out.2.2.2.2.2.trans hb8), by rw [← hS.out.st, HDR.out, storeL]; simp [HEQ.out, less_irrefl], (fun e => by cases e)⟩
            clear ho8 hb8 hk8 hs8 hat8
            generalize (⟨f.nm.toArray⟩ : ByteArray) = sf at *
            generalize (⟨o.nm.toArray⟩ : ByteArray) = so at *
            go_wp2_with (at_builtin; refine wpList_append_hr rfl _ _ 137 rfl _ _ rfl rfl hr8 ?_)
            go_roundw
            case rel => exact ⟨i + 1, by omega, by first | rfl | go_num, true, _, by first | rfl | trivial, HS.out⟩
            case measure => simp [RowKit.intOf]; omega
          · have HEQ : Hid (¬ o.nm = f.nm) := he
            have q1 := name_ne he
            clear he hlb hth
            obtain ⟨g8, cap8, w8, hr8, ho8, hb8, hk8, hs8, hat8⟩ := appendF_one kindRf layRf HO6.out.1 HO6.out.2.1 (o : Rf) #[.string ⟨o.nm.toArray⟩, .bool true, .slice o.a o.bs.length o.cap, .int .i64 (o.syn : Int)] rfl 134 (by have := HLN.out; (try simp only [List.length_append, List.length_singleton]); omega) (by have := HLN.out; (try simp only [List.length_append, List.length_singleton]); omega) 137
            have HS : Hid (StI W0 w8 f d0 xs (i + 1) (.slice (some ⟨g8, 0, none⟩) (zs.length + 1) cap8) false (zs ++ [o])) := ⟨ho8, (HO6.out.2.2.2.2.2.trans hb8), by rw [← hS.out.st, HDR.out, storeL]; simp [HEQ.out, HLB.out], hS.out.df⟩
            clear ho8 hb8 hk8 hs8 hat8
            generalize (⟨f.nm.toArray⟩ : ByteArray) = sf at *
            generalize (⟨o.nm.toArray⟩ : ByteArray) = so at *
            go_wp2_with (at_builtin; refine wpList_append_hr rfl _ _ 137 rfl _ _ rfl rfl hr8 ?_)
            go_roundw
            case rel => exact ⟨i + 1, by omega, by first | rfl | go_num, false, _, by first | rfl | trivial, HS.out⟩
            case measure => simp [RowKit.intOf]; omega
    · obtain rfl : i = n := by omega
      have hlt2 : ¬ ((i : Int) < (i : Int)) := by omega
      have hst := hS.out.st
      rw [← HN.out, List.drop_length] at hst
      have HST : Hid (zs ++ storeL f dn [] = storeL f d0 xs) := hst
      have hf6 := hfb
      clear hst hbw
      cases dn with
      | true =>
        obtain ⟨a', c', hv, _, _⟩ := own_shapeR hS.out.own
        subst hv
        obtain ⟨W9, hW9, hh9, hC9⟩ := setR1 hRw.box (.slice a' zs.length c')
        have k1 := Lib.frozen_of_heap hRw.box 1
        have HE : Hid (StoreP w W9 r T K (storeL f d0 xs)) :=
          StI.ends HH.out.1 HH.out.2.1 (fun e => HF.out (by have := HH.out.2.2.2.2.1; rw [e] at this; cases th <;> simp_all)) hS.out.own hS.out.below (by rw [← HST.out, storeL]; simp) hC9 hh9
        have HD0 : Hid ((!th) = d0) := HH.out.2.2.2.2.1
        clear hRw hfb hf6 hh9 hC9
        go_wp2_with fail
        go_end0
        exact ⟨rfl, by rw [HD0.out]; exact HE.out⟩
      | false =>
        have hth : th = true := by
          have h1 := hS.out.df rfl
          have h2 := HH.out.2.2.2.2.1
          rw [h1] at h2
          cases th <;> simp_all
        rw [hth] at hf6
        obtain ⟨p0, p1, p2, p3⟩ := box4 hf6
        have HLN : Hid (zs.length ≤ 1073741825) := by
          have h1 := congrArg List.length hS.out.st
          have h2 := storeL_len (f := f) (xs := xs) (dn := d0)
          have h3 := HH.out.2.2.2.1
          rw [List.length_append] at h1
          show zs.length ≤ _
          split at h2 <;> omega
        obtain ⟨g8, cap8, w8, hr8, ho8, hb8, hk8, hs8, hat8⟩ := appendF_one kindRf layRf hS.out.own hS.out.below.size (f : Rf) #[.string ⟨f.nm.toArray⟩, .bool true, .slice f.a f.bs.length f.cap, .int .i64 (f.syn : Int)] rfl 134 (by have := HLN.out; (try simp only [List.length_append, List.length_singleton]); omega) (by have := HLN.out; (try simp only [List.length_append, List.length_singleton]); omega) 137
        have hR8 : RefAt w8 r T K a c xs := HH.out.1.chg (D := fun _ => False) (Chg.of_below (HH.out.2.1.trans ((hS.out.below.trans hb8).mono HH.out.2.1.size))) (fun _ _ f => f)
        obtain ⟨W9, hW9, hh9, hC9⟩ := setR1 hR8.box (.slice (some ⟨g8, 0, none⟩) (zs.length + 1) cap8)
        have k1 := Lib.frozen_of_heap hR8.box 1
        have k2 := (box5 hR8.box).2.1
        have HE : Hid (StoreP w W9 r T K (storeL f d0 xs)) :=
          StI.ends (zs := zs ++ [f]) HH.out.1 HH.out.2.1 (fun e => HF.out (by have := HH.out.2.2.2.2.1; rw [e] at this; cases th <;> simp_all)) (by rw [List.length_append]; exact ho8) (hS.out.below.trans hb8) (by rw [← HST.out, storeL]; simp) hC9 (by rw [List.length_append]; exact hh9)
        have HD0 : Hid ((!th) = d0) := HH.out.2.2.2.2.1
        clear hRw hfb hf6 hh9 hC9 hR8 ho8 hb8 hk8 hs8 hat8 hth
        go_wp2_with (at_builtin; refine wpList_append_hr rfl _ _ 137 rfl _ _ rfl rfl hr8 ?_)
        go_end0
        exact ⟨rfl, by rw [HD0.out]; exact HE.out⟩
end Go.Proofs.Ytaclgiakinoocaa
