import Derived.Test.YtfehgaioioejoaaDgFJ
import Derived.Test.YtfehgaioioejoaaDfE
/-! The reference's Sync .. -/
namespace Go.Proofs.Ytfehgaioioejoaa
open Go.RowKit Go.Lib
set_option maxRecDepth 100000

theorem rcases {xs : List Rf} (hst : Str xs) (nm : List UInt8) : ((∀ x ∈ xs, x.nm ≠ nm) ∧ hasF (xs.map Rf.fl) nm = false ∧ fileA xs nm = noA nm) ∨ ∃ l x t, xs = l ++ x :: t ∧ x.nm = nm ∧ (∀ y ∈ l, y.nm ≠ nm ∧ Op.bytesLess nm y.nm = false) ∧ (∀ y ∈ t, y.nm ≠ nm) ∧ hasF (xs.map Rf.fl) nm = true ∧ fileA xs nm = rfA x := by
  by_cases h : ∃ x ∈ xs, x.nm = nm
  · obtain ⟨x, hx, he⟩ := h
    obtain ⟨l, t, rfl⟩ := List.append_of_mem hx
    unfold Str at hst
    rw [List.pairwise_append, List.pairwise_cons] at hst
    obtain ⟨_, ⟨h2, _⟩, h3⟩ := hst
    have hl : ∀ y ∈ l, y.nm ≠ nm ∧ Op.bytesLess nm y.nm = false := fun y hy => by
      have := less_asymm (h3 y hy x (List.mem_cons_self ..))
      rw [he] at this
      exact ⟨this.2.1, this.2.2⟩
    refine .inr ⟨l, x, t, rfl, he, hl, fun y hy => by have := (less_asymm (h2 y hy)).1; rwa [he] at this, ?_, ?_⟩
    · unfold hasF
      rw [List.any_map, List.any_eq_true]
      exact ⟨x, hx, by simp [Rf.fl, he]⟩
    · refine fileA_hit (i := l.length) (by simp) he (fun y hy => ?_)
      rw [List.take_left] at hy
      exact (hl y hy).1
  · have h2 : ∀ x ∈ xs, x.nm ≠ nm := fun x hx e => h ⟨x, hx, e⟩
    refine .inl ⟨h2, ?_, fileA_miss h2⟩
    unfold hasF
    rw [List.any_map, List.any_eq_false]
    intro x hx
    simp [Rf.fl, h2 x hx]
theorem upd_mid {nm : List UInt8} {g : Fl → Fl} {l t : List Rf} {x f : Rf} (hx : x.nm = nm) (hl : ∀ y ∈ l, y.nm ≠ nm) (ht : ∀ y ∈ t, y.nm ≠ nm) (hg : f.fl = g x.fl) : (l ++ ([f] ++ t)).map Rf.fl = ((l ++ x :: t).map Rf.fl).map (updF nm g) := by
  have hk : ∀ m : List Rf, (∀ y ∈ m, y.nm ≠ nm) → (m.map Rf.fl).map (updF nm g) = m.map Rf.fl := fun m hm => by
    rw [List.map_map]
    refine List.map_congr_left fun y hy => ?_
    show updF nm g y.fl = y.fl
    unfold updF
    exact if_neg (hm y hy)
  rw [List.map_append, List.map_append, List.map_append, List.map_cons, List.map_cons, List.map_append, List.map_cons, hk l hl, hk t ht]
  have : updF nm g x.fl = f.fl := by unfold updF; rw [if_pos (show x.fl.nm = nm from hx), hg]
  rw [this]
  rfl
theorem del_mid {nm : List UInt8} {l t : List Rf} {x : Rf} (hx : x.nm = nm) (hl : ∀ y ∈ l, y.nm ≠ nm) (ht : ∀ y ∈ t, y.nm ≠ nm) : (l ++ ([] ++ t)).map Rf.fl = ((l ++ x :: t).map Rf.fl).filter (fun f => !decide (f.nm = nm)) := by
  have hk : ∀ m : List Rf, (∀ y ∈ m, y.nm ≠ nm) → (m.map Rf.fl).filter (fun f => !decide (f.nm = nm)) = m.map Rf.fl := fun m hm => by
    rw [List.filter_eq_self]
    intro f hf
    obtain ⟨y, hy, rfl⟩ := List.mem_map.1 hf
    simp [Rf.fl, hm y hy]
  rw [List.map_append, List.map_append, List.map_append, List.map_cons, List.filter_append, List.filter_cons, hk l hl, hk t ht]
  simp [Rf.fl, hx]
theorem lenF_midR {nm : List UInt8} {l t : List Rf} {x : Rf} (hx : x.nm = nm) (hl : ∀ y ∈ l, y.nm ≠ nm) : ((l ++ x :: t).map Rf.fl).find? (fun f => decide (f.nm = nm)) = some x.fl := by
  have h1 : (l.map Rf.fl).find? (fun f => decide (f.nm = nm)) = none := by
    rw [List.find?_eq_none]
    intro f hf
    obtain ⟨y, hy, rfl⟩ := List.mem_map.1 hf
    simp [Rf.fl, hl y hy]
  rw [List.map_append, List.find?_append, h1, List.map_cons, List.find?_cons_of_pos (by simp [Rf.fl, hx])]
  rfl
variable {w : World} {r c : Nat} {T : Dk} {Kk : Int} {a : Option Addr} {xs : List Rf}
/-- What is needed of a reference's state. -/
structure RIn (T : Dk) (xs : List Rf) : Prop where
  len : xs.length ≤ 1073741823
  str : StrF T.fs
  st : T.steps ≤ 9223372036854775807
  use : sumR xs ≤ T.limit
  lim : T.limit ≤ 1099511627776
theorem mem_sumR {xs : List Rf} {x : Rf} (h : x ∈ xs) : x.bs.length ≤ sumR xs := by
  obtain ⟨l, t, rfl⟩ := List.append_of_mem h
  unfold sumR
  simp
  omega
theorem RIn.hu {T : Dk} {xs : List Rf} (h : RIn T xs) : ∀ x ∈ xs, x.bs.length ≤ 1099511627776 := fun x hx => by have := mem_sumR hx; have := h.use; have := h.lim; omega
/-- look refuses -/
theorem rLook_bad (h : RefAt w r T Kk a c xs) (hI : RIn T xs) (nm : List UInt8) (hl : nm.length ≤ 9223372036854775807) (he : findE T nm ≠ 0) :
    Calls Try.prog 93 #[.pointer (some ⟨r, 0, none⟩), .string ⟨nm.toArray⟩, .bool true] w fun e w' => e = .returned (.tuple #[.agg #[.string ⟨#[]⟩, .bool false, .slice none 0 0, .int .i64 0], .int .i64 (findE T nm)]) ∧ Below w.heap.size w w' := by
  by_cases h0 : readyP T nm = 0
  · have hfe : findE T nm = 112 ∧ hasF T.fs nm = false := by
      cases hq : hasF T.fs nm with
      | false => unfold findE; rw [if_pos h0, hq]; exact ⟨rfl, rfl⟩
      | true => exact absurd (by unfold findE; rw [if_pos h0, if_pos hq]) he
    rw [hfe.1]
    rcases rcases (strF_str (by rw [← h.fs]; exact hI.str)) nm with ⟨_, _, hf⟩ | ⟨l, x, t, _, _, _, _, hh, _⟩
    · exact rLook_none h (by have := hI.len; omega) nm hl true h0 ⟨nm.toArray⟩ false none 0 0 0 hf rfl rfl
    · rw [← h.fs, hfe.2] at hh; cases hh
  · have hfe : findE T nm = readyP T nm := by unfold findE; rw [if_neg h0]
    rw [hfe]
    exact rLook_err h nm hl true h0
/-- look finds -/
theorem rLook_good (h : RefAt w r T Kk a c xs) (hI : RIn T xs) (nm : List UInt8) (hl : nm.length ≤ 9223372036854775807) (he : findE T nm = 0) :
    ∃ l x t, xs = l ++ x :: t ∧ x.nm = nm ∧ (∀ y ∈ l, y.nm ≠ nm ∧ Op.bytesLess nm y.nm = false) ∧ (∀ y ∈ t, y.nm ≠ nm) ∧ fileA xs nm = rfA x ∧ Calls Try.prog 93 #[.pointer (some ⟨r, 0, none⟩), .string ⟨nm.toArray⟩, .bool true] w fun e w' => e = .returned (.tuple #[.agg #[.string ⟨x.nm.toArray⟩, .bool true, .slice x.a x.bs.length x.cap, .int .i64 (x.syn : Int)], .int .i64 0]) ∧ Below w.heap.size w w' := by
  have h0 : readyP T nm = 0 := by
    by_cases h0 : readyP T nm = 0
    · exact h0
    · unfold findE at he; rw [if_neg h0] at he; exact he
  rcases rcases (strF_str (by rw [← h.fs]; exact hI.str)) nm with ⟨_, hf, _⟩ | ⟨l, x, t, e, hx, h1, h2, hh, hf⟩
  · unfold findE at he
    rw [if_pos h0, h.fs, hf] at he
    cases he
  · exact ⟨l, x, t, e, hx, h1, h2, hf, rLook_ok h (by have := hI.len; omega) nm hl true h0 ⟨x.nm.toArray⟩ true x.a x.bs.length x.cap (x.syn : Int) hf (.inr rfl)⟩
set_option maxHeartbeats 2000000 in
theorem rSync (h : RefAt w r T Kk a c xs) (hI : RIn T xs) (nm : List UInt8) (hl : nm.length ≤ 9223372036854775807) :
    Calls Try.prog 61 #[.pointer (some ⟨r, 0, none⟩), .string ⟨nm.toArray⟩] w fun e w' => e = .returned (.int .i64 (syncP T nm).2) ∧ RNx w w' r a xs (syncP T nm).1 := by
  by_cases he : findE T nm = 0
  · skip
    obtain ⟨l, x, t, hxs, hx, hl1, ht1, hf, HLc⟩ := rLook_good h hI nm hl he
    have HL : Hid (Calls Try.prog 93 #[.pointer (some ⟨r, 0, none⟩), .string ⟨nm.toArray⟩, .bool true] w fun e w' => e = .returned (.tuple #[.agg #[.string ⟨x.nm.toArray⟩, .bool true, .slice x.a x.bs.length x.cap, .int .i64 (x.syn : Int)], .int .i64 0]) ∧ Below w.heap.size w w') := HLc
    have hmem : x ∈ xs := by rw [hxs]; simp
    have hl2 : ∀ y ∈ l, y.nm ≠ nm := fun y hy => (hl1 y hy).1
    have HH : Hid (RefAt w r T Kk a c xs) := h
    have hlen : lenF T.fs nm = x.bs.length := by unfold lenF; rw [h.fs, hxs, lenF_midR hx hl2]; rfl
    by_cases hs : T.steps = 1
    · have HP : Hid (syncP T nm = (crashP T.keep T, 110)) := by unfold syncP; rw [if_pos he, if_pos hs]; rfl
      have HC : Hid (∀ W, Below w.heap.size w W → Calls Try.prog 97 #[.pointer (some ⟨r, 0, none⟩), .agg #[.int .i64 2, .string ⟨nm.toArray⟩, .slice none 0 0, .int .i64 0, .int .u8 0]] W fun e w' => e = .returned (.int .i64 110) ∧ RNx W w' r a xs (crashP T.keep T)) := fun W hb => rChange_hit (h.below hb) hI.len hI.str hI.hu hs _ _ _ _ _ _ _
      clear h hI hl he hxs hx hl1 ht1 hf HLc hmem hl2 hlen hs
      generalize (⟨nm.toArray⟩ : ByteArray) = s at *
      go_enter Try.func61, Try.ntmps61
      go_wp2_with fail
      refine HL.out.mono ?_
      rintro e w1 ⟨rfl, hb1⟩
      obtain ⟨V6, hV6⟩ : ∃ V6, w1.alloc (.cells #[.string ⟨x.nm.toArray⟩, .bool true, .slice x.a x.bs.length x.cap, .int .i64 (x.syn : Int)] 126) = V6 := ⟨_, rfl⟩
      have hb6 : Below w.heap.size w V6 := by rw [← hV6]; exact hb1.alloc hb1.size _
      have hh6 : V6.heap[w1.heap.size]? = some (.cells #[.string ⟨x.nm.toArray⟩, .bool true, .slice x.a x.bs.length x.cap, .int .i64 (x.syn : Int)] 126) := by rw [← hV6]; exact (MapKept.heap_alloc w1 _).1
      obtain ⟨t0, t1, t2, t3⟩ := box4 hh6
      have HB : Hid (Below w.heap.size w V6) := hb6
      clear hb1 hb6 hh6
      go_wp2_with fail
      refine (HC.out _ HB.out).mono ?_
      rintro e w2 ⟨rfl, hnx⟩
      have HY : Hid (RNx w w2 r a xs (crashP T.keep T)) := RNx.wrap HB.out (Chg.refl _ _) hnx
      clear hnx
      go_wp2_with fail
      go_ret
      rw [HP.out]
      exact ⟨rfl, HY.out⟩
    · have HP : Hid (syncP T nm = ({ stepS T with fs := T.fs.map (updF nm Fl.sync) }, 0)) := by unfold syncP; rw [if_pos he, if_neg hs]; rfl
      have HC : Hid (∀ W, Below w.heap.size w W → Calls Try.prog 97 #[.pointer (some ⟨r, 0, none⟩), .agg #[.int .i64 2, .string ⟨nm.toArray⟩, .slice none 0 0, .int .i64 0, .int .u8 0]] W fun e w' => e = .returned (.int .i64 0) ∧ RNx W w' r a xs ({ stepS T with fs := T.fs.map (updF nm Fl.sync) })) := fun W hb => rChange_ok (h.below hb) hI.st hs _ _ _ _ _ _ _ (fun W2 _ hW2 => by
        have hd := rDid_sync hW2 hI.len x hmem (by rw [hx]; exact hf)
        rw [hx] at hd; rw [show storeL ⟨nm, x.a, x.cap, x.bs, x.bs.length⟩ false xs = l ++ ([⟨nm, x.a, x.cap, x.bs, x.bs.length⟩] ++ t) by rw [hxs]; exact storeL_hit hx ht1 false hl1, upd_mid (g := Fl.sync) hx hl2 ht1 (by show (⟨nm, x.bs, x.bs.length⟩ : Fl) = ⟨x.nm, x.bs, x.bs.length⟩; rw [hx]), ← hxs, ← h.fs] at hd
        exact hd)
      clear h hI hl he hxs hx hl1 ht1 hf HLc hmem hl2 hlen hs
      generalize (⟨nm.toArray⟩ : ByteArray) = s at *
      go_enter Try.func61, Try.ntmps61
      go_wp2_with fail
      refine HL.out.mono ?_
      rintro e w1 ⟨rfl, hb1⟩
      obtain ⟨V6, hV6⟩ : ∃ V6, w1.alloc (.cells #[.string ⟨x.nm.toArray⟩, .bool true, .slice x.a x.bs.length x.cap, .int .i64 (x.syn : Int)] 126) = V6 := ⟨_, rfl⟩
      have hb6 : Below w.heap.size w V6 := by rw [← hV6]; exact hb1.alloc hb1.size _
      have hh6 : V6.heap[w1.heap.size]? = some (.cells #[.string ⟨x.nm.toArray⟩, .bool true, .slice x.a x.bs.length x.cap, .int .i64 (x.syn : Int)] 126) := by rw [← hV6]; exact (MapKept.heap_alloc w1 _).1
      obtain ⟨t0, t1, t2, t3⟩ := box4 hh6
      have HB : Hid (Below w.heap.size w V6) := hb6
      clear hb1 hb6 hh6
      go_wp2_with fail
      refine (HC.out _ HB.out).mono ?_
      rintro e w2 ⟨rfl, hnx⟩
      have HY : Hid (RNx w w2 r a xs ({ stepS T with fs := T.fs.map (updF nm Fl.sync) })) := RNx.wrap HB.out (Chg.refl _ _) hnx
      clear hnx
      go_wp2_with fail
      go_ret
      rw [HP.out]
      exact ⟨rfl, HY.out⟩
  · have HP : Hid (syncP T nm = (T, findE T nm)) := by unfold syncP; rw [if_neg he]; rfl
    have HL : Hid (Calls Try.prog 93 #[.pointer (some ⟨r, 0, none⟩), .string ⟨nm.toArray⟩, .bool true] w fun e w' => e = .returned (.tuple #[.agg #[.string ⟨#[]⟩, .bool false, .slice none 0 0, .int .i64 0], .int .i64 (findE T nm)]) ∧ Below w.heap.size w w') := rLook_bad h hI nm hl he
    have hb : (findE T nm != 0) = true := bne_iff_ne.2 he
    have HH : Hid (RefAt w r T Kk a c xs) := h
    clear h hI hl he
    generalize findE T nm = er at *
    generalize (⟨nm.toArray⟩ : ByteArray) = s at *
    go_enter Try.func61, Try.ntmps61
    go_wp2_with fail
    refine HL.out.mono ?_
    rintro e w1 ⟨rfl, hb1⟩
    have HB : Hid (Below w.heap.size w w1) := hb1
    clear hb1
    go_wp2_with fail
    go_ret
    rw [HP.out]
    exact ⟨rfl, HH.out.nxt (HB.out.alloc HB.out.size _)⟩
set_option maxHeartbeats 2000000 in
theorem rRemove (h : RefAt w r T Kk a c xs) (hI : RIn T xs) (nm : List UInt8) (hl : nm.length ≤ 9223372036854775807) :
    Calls Try.prog 63 #[.pointer (some ⟨r, 0, none⟩), .string ⟨nm.toArray⟩] w fun e w' => e = .returned (.int .i64 (removeP T nm).2) ∧ RNx w w' r a xs (removeP T nm).1 := by
  by_cases he : findE T nm = 0
  · skip
    obtain ⟨l, x, t, hxs, hx, hl1, ht1, hf, HLc⟩ := rLook_good h hI nm hl he
    have HL : Hid (Calls Try.prog 93 #[.pointer (some ⟨r, 0, none⟩), .string ⟨nm.toArray⟩, .bool true] w fun e w' => e = .returned (.tuple #[.agg #[.string ⟨x.nm.toArray⟩, .bool true, .slice x.a x.bs.length x.cap, .int .i64 (x.syn : Int)], .int .i64 0]) ∧ Below w.heap.size w w') := HLc
    have hmem : x ∈ xs := by rw [hxs]; simp
    have hl2 : ∀ y ∈ l, y.nm ≠ nm := fun y hy => (hl1 y hy).1
    have HH : Hid (RefAt w r T Kk a c xs) := h
    have hlen : lenF T.fs nm = x.bs.length := by unfold lenF; rw [h.fs, hxs, lenF_midR hx hl2]; rfl
    by_cases hs : T.steps = 1
    · have HP : Hid (removeP T nm = (crashP T.keep T, 110)) := by unfold removeP; rw [if_pos he, if_pos hs]; rfl
      have HC : Hid (∀ W, Below w.heap.size w W → Calls Try.prog 97 #[.pointer (some ⟨r, 0, none⟩), .agg #[.int .i64 4, .string ⟨nm.toArray⟩, .slice none 0 0, .int .i64 0, .int .u8 0]] W fun e w' => e = .returned (.int .i64 110) ∧ RNx W w' r a xs (crashP T.keep T)) := fun W hb => rChange_hit (h.below hb) hI.len hI.str hI.hu hs _ _ _ _ _ _ _
      clear h hI hl he hxs hx hl1 ht1 hf HLc hmem hl2 hlen hs
      generalize (⟨nm.toArray⟩ : ByteArray) = s at *
      go_enter Try.func63, Try.ntmps63
      go_wp2_with fail
      refine HL.out.mono ?_
      rintro e w1 ⟨rfl, hb1⟩
      obtain ⟨V6, hV6⟩ : ∃ V6, w1.alloc (.cells #[.string ⟨x.nm.toArray⟩, .bool true, .slice x.a x.bs.length x.cap, .int .i64 (x.syn : Int)] 126) = V6 := ⟨_, rfl⟩
      have hb6 : Below w.heap.size w V6 := by rw [← hV6]; exact hb1.alloc hb1.size _
      have hh6 : V6.heap[w1.heap.size]? = some (.cells #[.string ⟨x.nm.toArray⟩, .bool true, .slice x.a x.bs.length x.cap, .int .i64 (x.syn : Int)] 126) := by rw [← hV6]; exact (MapKept.heap_alloc w1 _).1
      obtain ⟨t0, t1, t2, t3⟩ := box4 hh6
      have HB : Hid (Below w.heap.size w V6) := hb6
      clear hb1 hb6 hh6
      go_wp2_with fail
      refine (HC.out _ HB.out).mono ?_
      rintro e w2 ⟨rfl, hnx⟩
      have HY : Hid (RNx w w2 r a xs (crashP T.keep T)) := RNx.wrap HB.out (Chg.refl _ _) hnx
      clear hnx
      go_wp2_with fail
      go_ret
      rw [HP.out]
      exact ⟨rfl, HY.out⟩
    · have HP : Hid (removeP T nm = ({ stepS T with fs := T.fs.filter (fun f => !decide (f.nm = nm)) }, 0)) := by unfold removeP; rw [if_pos he, if_neg hs]; rfl
      have HC : Hid (∀ W, Below w.heap.size w W → Calls Try.prog 97 #[.pointer (some ⟨r, 0, none⟩), .agg #[.int .i64 4, .string ⟨nm.toArray⟩, .slice none 0 0, .int .i64 0, .int .u8 0]] W fun e w' => e = .returned (.int .i64 0) ∧ RNx W w' r a xs ({ stepS T with fs := T.fs.filter (fun f => !decide (f.nm = nm)) })) := fun W hb => rChange_ok (h.below hb) hI.st hs _ _ _ _ _ _ _ (fun W2 _ hW2 => by
        have hd := rDid_gone hW2 hI.len x hmem (by rw [hx]; exact hf)
        rw [hx] at hd; rw [show storeL x true xs = l ++ ([] ++ t) by rw [hxs]; exact storeL_hit rfl (by rw [hx]; exact ht1) true (by rw [hx]; exact hl1), del_mid hx hl2 ht1, ← hxs, ← h.fs] at hd
        exact hd)
      clear h hI hl he hxs hx hl1 ht1 hf HLc hmem hl2 hlen hs
      generalize (⟨nm.toArray⟩ : ByteArray) = s at *
      go_enter Try.func63, Try.ntmps63
      go_wp2_with fail
      refine HL.out.mono ?_
      rintro e w1 ⟨rfl, hb1⟩
      obtain ⟨V6, hV6⟩ : ∃ V6, w1.alloc (.cells #[.string ⟨x.nm.toArray⟩, .bool true, .slice x.a x.bs.length x.cap, .int .i64 (x.syn : Int)] 126) = V6 := ⟨_, rfl⟩
      have hb6 : Below w.heap.size w V6 := by rw [← hV6]; exact hb1.alloc hb1.size _
      have hh6 : V6.heap[w1.heap.size]? = some (.cells #[.string ⟨x.nm.toArray⟩, .bool true, .slice x.a x.bs.length x.cap, .int .i64 (x.syn : Int)] 126) := by rw [← hV6]; exact (MapKept.heap_alloc w1 _).1
      obtain ⟨t0, t1, t2, t3⟩ := box4 hh6
      have HB : Hid (Below w.heap.size w V6) := hb6
      clear hb1 hb6 hh6
      go_wp2_with fail
      refine (HC.out _ HB.out).mono ?_
      rintro e w2 ⟨rfl, hnx⟩
      have HY : Hid (RNx w w2 r a xs ({ stepS T with fs := T.fs.filter (fun f => !decide (f.nm = nm)) })) := RNx.wrap HB.out (Chg.refl _ _) hnx
      clear hnx
      go_wp2_with fail
      go_ret
      rw [HP.out]
      exact ⟨rfl, HY.out⟩
  · have HP : Hid (removeP T nm = (T, findE T nm)) := by unfold removeP; rw [if_neg he]; rfl
    have HL : Hid (Calls Try.prog 93 #[.pointer (some ⟨r, 0, none⟩), .string ⟨nm.toArray⟩, .bool true] w fun e w' => e = .returned (.tuple #[.agg #[.string ⟨#[]⟩, .bool false, .slice none 0 0, .int .i64 0], .int .i64 (findE T nm)]) ∧ Below w.heap.size w w') := rLook_bad h hI nm hl he
    have hb : (findE T nm != 0) = true := bne_iff_ne.2 he
    have HH : Hid (RefAt w r T Kk a c xs) := h
    clear h hI hl he
    generalize findE T nm = er at *
    generalize (⟨nm.toArray⟩ : ByteArray) = s at *
    go_enter Try.func63, Try.ntmps63
    go_wp2_with fail
    refine HL.out.mono ?_
    rintro e w1 ⟨rfl, hb1⟩
    have HB : Hid (Below w.heap.size w w1) := hb1
    clear hb1
    go_wp2_with fail
    go_ret
    rw [HP.out]
    exact ⟨rfl, HH.out.nxt (HB.out.alloc HB.out.size _)⟩
end Go.Proofs.Ytfehgaioioejoaa

/-! The reference's Cut, Turn, Size. -/
namespace Go.Proofs.Ytfehgaioioejoaa
open Go.RowKit Go.Lib
set_option maxRecDepth 100000

variable {w : World} {r c : Nat} {T : Dk} {Kk : Int} {a : Option Addr} {xs : List Rf}
set_option maxHeartbeats 2000000 in
theorem rCut (h : RefAt w r T Kk a c xs) (hI : RIn T xs) (nm : List UInt8) (hl : nm.length ≤ 9223372036854775807) (n : Int) :
    Calls Try.prog 62 #[.pointer (some ⟨r, 0, none⟩), .string ⟨nm.toArray⟩, .int .i64 n] w fun e w' => e = .returned (.int .i64 (cutP T nm n).2) ∧ RNx w w' r a xs (cutP T nm n).1 := by
  by_cases he : findE T nm = 0
  · skip
    obtain ⟨l, x, t, hxs, hx, hl1, ht1, hf, HLc⟩ := rLook_good h hI nm hl he
    have HL : Hid (Calls Try.prog 93 #[.pointer (some ⟨r, 0, none⟩), .string ⟨nm.toArray⟩, .bool true] w fun e w' => e = .returned (.tuple #[.agg #[.string ⟨x.nm.toArray⟩, .bool true, .slice x.a x.bs.length x.cap, .int .i64 (x.syn : Int)], .int .i64 0]) ∧ Below w.heap.size w w') := HLc
    have hmem : x ∈ xs := by rw [hxs]; simp
    have hl2 : ∀ y ∈ l, y.nm ≠ nm := fun y hy => (hl1 y hy).1
    have HH : Hid (RefAt w r T Kk a c xs) := h
    have hlen : lenF T.fs nm = x.bs.length := by unfold lenF; rw [h.fs, hxs, lenF_midR hx hl2]; rfl
    by_cases hn : n < 0 ∨ (lenF T.fs nm : Int) < n
    · have HP : Hid (cutP T nm n = (T, 12)) := by unfold cutP; rw [if_pos he, if_pos hn]; rfl
      rw [hlen] at hn
      clear h hI hl he hxs hx hl1 ht1 hf HLc hmem hl2 hlen
      generalize (⟨nm.toArray⟩ : ByteArray) = s at *
      by_cases h9 : n < 0
      · clear hn
        go_enter Try.func62, Try.ntmps62
        go_wp2_with fail
        refine HL.out.mono ?_
        rintro e w1 ⟨rfl, hb1⟩
        obtain ⟨V6, hV6⟩ : ∃ V6, w1.alloc (.cells #[.string ⟨x.nm.toArray⟩, .bool true, .slice x.a x.bs.length x.cap, .int .i64 (x.syn : Int)] 126) = V6 := ⟨_, rfl⟩
        have hb6 : Below w.heap.size w V6 := by rw [← hV6]; exact hb1.alloc hb1.size _
        have hh6 : V6.heap[w1.heap.size]? = some (.cells #[.string ⟨x.nm.toArray⟩, .bool true, .slice x.a x.bs.length x.cap, .int .i64 (x.syn : Int)] 126) := by rw [← hV6]; exact (MapKept.heap_alloc w1 _).1
        obtain ⟨t0, t1, t2, t3⟩ := box4 hh6
        have HB : Hid (Below w.heap.size w V6) := hb6
        clear hb1 hb6 hh6
        go_wp2_with fail
        go_ret
        rw [HP.out]
        exact ⟨rfl, HH.out.nxt HB.out⟩
      · have h8 : (x.bs.length : Int) < n := by omega
        clear hn
        go_enter Try.func62, Try.ntmps62
        go_wp2_with fail
        refine HL.out.mono ?_
        rintro e w1 ⟨rfl, hb1⟩
        obtain ⟨V6, hV6⟩ : ∃ V6, w1.alloc (.cells #[.string ⟨x.nm.toArray⟩, .bool true, .slice x.a x.bs.length x.cap, .int .i64 (x.syn : Int)] 126) = V6 := ⟨_, rfl⟩
        have hb6 : Below w.heap.size w V6 := by rw [← hV6]; exact hb1.alloc hb1.size _
        have hh6 : V6.heap[w1.heap.size]? = some (.cells #[.string ⟨x.nm.toArray⟩, .bool true, .slice x.a x.bs.length x.cap, .int .i64 (x.syn : Int)] 126) := by rw [← hV6]; exact (MapKept.heap_alloc w1 _).1
        obtain ⟨t0, t1, t2, t3⟩ := box4 hh6
        have HB : Hid (Below w.heap.size w V6) := hb6
        clear hb1 hb6 hh6
        go_wp2_with fail
        go_ret
        rw [HP.out]
        exact ⟨rfl, HH.out.nxt HB.out⟩
    have hn0 := hn
    rw [hlen] at hn
    have g1 : ¬ n < 0 := fun e => hn (.inl e)
    have g2 : ¬ (x.bs.length : Int) < n := fun e => hn (.inr e)
    clear hn
    obtain ⟨N, rfl⟩ : ∃ N : Nat, n = (N : Int) := ⟨n.toNat, by omega⟩
    have hN : N ≤ x.bs.length := by omega
    by_cases hs : T.steps = 1
    · have HP : Hid (cutP T nm (N : Int) = (crashP T.keep T, 110)) := by unfold cutP; rw [if_pos he, if_neg hn0, if_pos hs]; rfl
      have HC : Hid (∀ W, Below w.heap.size w W → Calls Try.prog 97 #[.pointer (some ⟨r, 0, none⟩), .agg #[.int .i64 3, .string ⟨nm.toArray⟩, .slice none 0 0, .int .i64 (N : Int), .int .u8 0]] W fun e w' => e = .returned (.int .i64 110) ∧ RNx W w' r a xs (crashP T.keep T)) := fun W hb => rChange_hit (h.below hb) hI.len hI.str hI.hu hs _ _ _ _ _ _ _
      clear h hI hl he hxs hx hl1 ht1 hf HLc hmem hl2 hlen hs hn0 hN
      generalize (⟨nm.toArray⟩ : ByteArray) = s at *
      go_enter Try.func62, Try.ntmps62
      go_wp2_with fail
      refine HL.out.mono ?_
      rintro e w1 ⟨rfl, hb1⟩
      obtain ⟨V6, hV6⟩ : ∃ V6, w1.alloc (.cells #[.string ⟨x.nm.toArray⟩, .bool true, .slice x.a x.bs.length x.cap, .int .i64 (x.syn : Int)] 126) = V6 := ⟨_, rfl⟩
      have hb6 : Below w.heap.size w V6 := by rw [← hV6]; exact hb1.alloc hb1.size _
      have hh6 : V6.heap[w1.heap.size]? = some (.cells #[.string ⟨x.nm.toArray⟩, .bool true, .slice x.a x.bs.length x.cap, .int .i64 (x.syn : Int)] 126) := by rw [← hV6]; exact (MapKept.heap_alloc w1 _).1
      obtain ⟨t0, t1, t2, t3⟩ := box4 hh6
      have HB : Hid (Below w.heap.size w V6) := hb6
      clear hb1 hb6 hh6
      go_wp2_with fail
      refine (HC.out _ HB.out).mono ?_
      rintro e w2 ⟨rfl, hnx⟩
      have HY : Hid (RNx w w2 r a xs (crashP T.keep T)) := RNx.wrap HB.out (Chg.refl _ _) hnx
      clear hnx
      go_wp2_with fail
      go_ret
      rw [HP.out]
      exact ⟨rfl, HY.out⟩
    · have HP : Hid (cutP T nm (N : Int) = ({ stepS T with fs := T.fs.map (updF nm (Fl.cut N)) }, 0)) := by unfold cutP; rw [if_pos he, if_neg hn0, if_neg hs]; rfl
      have HC : Hid (∀ W, Below w.heap.size w W → Calls Try.prog 97 #[.pointer (some ⟨r, 0, none⟩), .agg #[.int .i64 3, .string ⟨nm.toArray⟩, .slice none 0 0, .int .i64 (N : Int), .int .u8 0]] W fun e w' => e = .returned (.int .i64 0) ∧ RNx W w' r a xs ({ stepS T with fs := T.fs.map (updF nm (Fl.cut N)) })) := fun W hb => rChange_ok (h.below hb) hI.st hs _ _ _ _ _ _ _ (fun W2 _ hW2 => by
        have hd := rDid_cut hW2 hI.len x hmem (by rw [hx]; exact hf) N hN
        rw [hx] at hd; rw [show storeL ⟨nm, x.a, x.cap, x.bs.take N, min x.syn N⟩ false xs = l ++ ([⟨nm, x.a, x.cap, x.bs.take N, min x.syn N⟩] ++ t) by rw [hxs]; exact storeL_hit hx ht1 false hl1, upd_mid (g := Fl.cut N) hx hl2 ht1 (by show (⟨nm, x.bs.take N, min x.syn N⟩ : Fl) = ⟨x.nm, x.bs.take N, min x.syn N⟩; rw [hx]), ← hxs, ← h.fs] at hd
        exact hd)
      clear h hI hl he hxs hx hl1 ht1 hf HLc hmem hl2 hlen hs hn0 hN
      generalize (⟨nm.toArray⟩ : ByteArray) = s at *
      go_enter Try.func62, Try.ntmps62
      go_wp2_with fail
      refine HL.out.mono ?_
      rintro e w1 ⟨rfl, hb1⟩
      obtain ⟨V6, hV6⟩ : ∃ V6, w1.alloc (.cells #[.string ⟨x.nm.toArray⟩, .bool true, .slice x.a x.bs.length x.cap, .int .i64 (x.syn : Int)] 126) = V6 := ⟨_, rfl⟩
      have hb6 : Below w.heap.size w V6 := by rw [← hV6]; exact hb1.alloc hb1.size _
      have hh6 : V6.heap[w1.heap.size]? = some (.cells #[.string ⟨x.nm.toArray⟩, .bool true, .slice x.a x.bs.length x.cap, .int .i64 (x.syn : Int)] 126) := by rw [← hV6]; exact (MapKept.heap_alloc w1 _).1
      obtain ⟨t0, t1, t2, t3⟩ := box4 hh6
      have HB : Hid (Below w.heap.size w V6) := hb6
      clear hb1 hb6 hh6
      go_wp2_with fail
      refine (HC.out _ HB.out).mono ?_
      rintro e w2 ⟨rfl, hnx⟩
      have HY : Hid (RNx w w2 r a xs ({ stepS T with fs := T.fs.map (updF nm (Fl.cut N)) })) := RNx.wrap HB.out (Chg.refl _ _) hnx
      clear hnx
      go_wp2_with fail
      go_ret
      rw [HP.out]
      exact ⟨rfl, HY.out⟩
  · have HP : Hid (cutP T nm n = (T, findE T nm)) := by unfold cutP; rw [if_neg he]; rfl
    have HL : Hid (Calls Try.prog 93 #[.pointer (some ⟨r, 0, none⟩), .string ⟨nm.toArray⟩, .bool true] w fun e w' => e = .returned (.tuple #[.agg #[.string ⟨#[]⟩, .bool false, .slice none 0 0, .int .i64 0], .int .i64 (findE T nm)]) ∧ Below w.heap.size w w') := rLook_bad h hI nm hl he
    have hb : (findE T nm != 0) = true := bne_iff_ne.2 he
    have HH : Hid (RefAt w r T Kk a c xs) := h
    clear h hI hl he
    generalize findE T nm = er at *
    generalize (⟨nm.toArray⟩ : ByteArray) = s at *
    go_enter Try.func62, Try.ntmps62
    go_wp2_with fail
    refine HL.out.mono ?_
    rintro e w1 ⟨rfl, hb1⟩
    have HB : Hid (Below w.heap.size w w1) := hb1
    clear hb1
    go_wp2_with fail
    go_ret
    rw [HP.out]
    exact ⟨rfl, HH.out.nxt (HB.out.alloc HB.out.size _)⟩
set_option maxHeartbeats 2000000 in
theorem rSize (h : RefAt w r T Kk a c xs) (hI : RIn T xs) (nm : List UInt8) (hl : nm.length ≤ 9223372036854775807) :
    Calls Try.prog 65 #[.pointer (some ⟨r, 0, none⟩), .string ⟨nm.toArray⟩] w fun e w' => e = .returned (.tuple #[.int .i64 ((sizeP T nm).1 : Int), .int .i64 ((sizeP T nm).2.1 : Int), .int .i64 (sizeP T nm).2.2]) ∧ Below w.heap.size w w' := by
  by_cases he : findE T nm = 0
  · skip
    obtain ⟨l, x, t, hxs, hx, hl1, ht1, hf, HLc⟩ := rLook_good h hI nm hl he
    have HL : Hid (Calls Try.prog 93 #[.pointer (some ⟨r, 0, none⟩), .string ⟨nm.toArray⟩, .bool true] w fun e w' => e = .returned (.tuple #[.agg #[.string ⟨x.nm.toArray⟩, .bool true, .slice x.a x.bs.length x.cap, .int .i64 (x.syn : Int)], .int .i64 0]) ∧ Below w.heap.size w w') := HLc
    have hmem : x ∈ xs := by rw [hxs]; simp
    have hl2 : ∀ y ∈ l, y.nm ≠ nm := fun y hy => (hl1 y hy).1
    have HH : Hid (RefAt w r T Kk a c xs) := h
    have hlen : lenF T.fs nm = x.bs.length := by unfold lenF; rw [h.fs, hxs, lenF_midR hx hl2]; rfl
    have hsyn : synF T.fs nm = x.syn := by unfold synF; rw [h.fs, hxs, lenF_midR hx hl2]; rfl
    have HP : Hid (sizeP T nm = (x.bs.length, x.syn, 0)) := by unfold sizeP; rw [if_pos he, hlen, hsyn]; rfl
    clear h hI hl he hxs hx hl1 ht1 hf HLc hmem hl2 hlen hsyn
    generalize (⟨nm.toArray⟩ : ByteArray) = s at *
    go_enter Try.func65, Try.ntmps65
    go_wp2_with fail
    refine HL.out.mono ?_
    rintro e w1 ⟨rfl, hb1⟩
    obtain ⟨V6, hV6⟩ : ∃ V6, w1.alloc (.cells #[.string ⟨x.nm.toArray⟩, .bool true, .slice x.a x.bs.length x.cap, .int .i64 (x.syn : Int)] 126) = V6 := ⟨_, rfl⟩
    have hb6 : Below w.heap.size w V6 := by rw [← hV6]; exact hb1.alloc hb1.size _
    have hh6 : V6.heap[w1.heap.size]? = some (.cells #[.string ⟨x.nm.toArray⟩, .bool true, .slice x.a x.bs.length x.cap, .int .i64 (x.syn : Int)] 126) := by rw [← hV6]; exact (MapKept.heap_alloc w1 _).1
    obtain ⟨t0, t1, t2, t3⟩ := box4 hh6
    have HB : Hid (Below w.heap.size w V6) := hb6
    clear hb1 hb6 hh6
    go_wp2_with fail
    go_quiet (fail)
    go_wp2_with fail
    go_ret3
    rw [HP.out]
    exact ⟨rfl, below_drewN HB.out _⟩
  · have HP : Hid (sizeP T nm = (0, 0, findE T nm)) := by unfold sizeP; rw [if_neg he]; rfl
    have HL : Hid (Calls Try.prog 93 #[.pointer (some ⟨r, 0, none⟩), .string ⟨nm.toArray⟩, .bool true] w fun e w' => e = .returned (.tuple #[.agg #[.string ⟨#[]⟩, .bool false, .slice none 0 0, .int .i64 0], .int .i64 (findE T nm)]) ∧ Below w.heap.size w w') := rLook_bad h hI nm hl he
    have hb : (findE T nm != 0) = true := bne_iff_ne.2 he
    clear h hI hl he
    generalize findE T nm = er at *
    generalize (⟨nm.toArray⟩ : ByteArray) = s at *
    go_enter Try.func65, Try.ntmps65
    go_wp2_with fail
    refine HL.out.mono ?_
    rintro e w1 ⟨rfl, hb1⟩
    have HB : Hid (Below w.heap.size w w1) := hb1
    clear hb1
    go_wp2_with fail
    go_ret3
    rw [HP.out]
    exact ⟨rfl, HB.out.alloc HB.out.size _⟩
set_option maxHeartbeats 2000000 in
theorem rTurn (h : RefAt w r T Kk a c xs) (hI : RIn T xs) (nm : List UInt8) (hl : nm.length ≤ 9223372036854775807) (n : Int) (mk : UInt8) :
    Calls Try.prog 72 #[.pointer (some ⟨r, 0, none⟩), .string ⟨nm.toArray⟩, .int .i64 n, .int .u8 (mk.toNat : Int)] w fun e w' => e = .returned (.int .i64 (turnP T nm n mk).2) ∧ RNx w w' r a xs (turnP T nm n mk).1 := by
  by_cases he : findE T nm = 0
  · skip
    obtain ⟨l, x, t, hxs, hx, hl1, ht1, hf, HLc⟩ := rLook_good h hI nm hl he
    have HL : Hid (Calls Try.prog 93 #[.pointer (some ⟨r, 0, none⟩), .string ⟨nm.toArray⟩, .bool true] w fun e w' => e = .returned (.tuple #[.agg #[.string ⟨x.nm.toArray⟩, .bool true, .slice x.a x.bs.length x.cap, .int .i64 (x.syn : Int)], .int .i64 0]) ∧ Below w.heap.size w w') := HLc
    have hmem : x ∈ xs := by rw [hxs]; simp
    have hl2 : ∀ y ∈ l, y.nm ≠ nm := fun y hy => (hl1 y hy).1
    have HH : Hid (RefAt w r T Kk a c xs) := h
    have hlen : lenF T.fs nm = x.bs.length := by unfold lenF; rw [h.fs, hxs, lenF_midR hx hl2]; rfl
    by_cases hn : n < 0 ∨ (lenF T.fs nm : Int) ≤ n
    · have HP : Hid (turnP T nm n mk = (T, 12)) := by unfold turnP; rw [if_pos he, if_pos hn]; rfl
      rw [hlen] at hn
      clear h hI hl he hxs hx hl1 ht1 hf HLc hmem hl2 hlen
      generalize (⟨nm.toArray⟩ : ByteArray) = s at *
      by_cases h9 : n < 0
      · clear hn
        go_enter Try.func72, Try.ntmps72
        go_wp2_with fail
        refine HL.out.mono ?_
        rintro e w1 ⟨rfl, hb1⟩
        obtain ⟨V6, hV6⟩ : ∃ V6, w1.alloc (.cells #[.string ⟨x.nm.toArray⟩, .bool true, .slice x.a x.bs.length x.cap, .int .i64 (x.syn : Int)] 126) = V6 := ⟨_, rfl⟩
        have hb6 : Below w.heap.size w V6 := by rw [← hV6]; exact hb1.alloc hb1.size _
        have hh6 : V6.heap[w1.heap.size]? = some (.cells #[.string ⟨x.nm.toArray⟩, .bool true, .slice x.a x.bs.length x.cap, .int .i64 (x.syn : Int)] 126) := by rw [← hV6]; exact (MapKept.heap_alloc w1 _).1
        obtain ⟨t0, t1, t2, t3⟩ := box4 hh6
        have HB : Hid (Below w.heap.size w V6) := hb6
        clear hb1 hb6 hh6
        go_wp2_with fail
        go_ret
        rw [HP.out]
        exact ⟨rfl, HH.out.nxt HB.out⟩
      · have h8 : (x.bs.length : Int) ≤ n := by omega
        clear hn
        go_enter Try.func72, Try.ntmps72
        go_wp2_with fail
        refine HL.out.mono ?_
        rintro e w1 ⟨rfl, hb1⟩
        obtain ⟨V6, hV6⟩ : ∃ V6, w1.alloc (.cells #[.string ⟨x.nm.toArray⟩, .bool true, .slice x.a x.bs.length x.cap, .int .i64 (x.syn : Int)] 126) = V6 := ⟨_, rfl⟩
        have hb6 : Below w.heap.size w V6 := by rw [← hV6]; exact hb1.alloc hb1.size _
        have hh6 : V6.heap[w1.heap.size]? = some (.cells #[.string ⟨x.nm.toArray⟩, .bool true, .slice x.a x.bs.length x.cap, .int .i64 (x.syn : Int)] 126) := by rw [← hV6]; exact (MapKept.heap_alloc w1 _).1
        obtain ⟨t0, t1, t2, t3⟩ := box4 hh6
        have HB : Hid (Below w.heap.size w V6) := hb6
        clear hb1 hb6 hh6
        go_wp2_with fail
        go_ret
        rw [HP.out]
        exact ⟨rfl, HH.out.nxt HB.out⟩
    have hn0 := hn
    rw [hlen] at hn
    have g1 : ¬ n < 0 := fun e => hn (.inl e)
    have g2 : ¬ (x.bs.length : Int) ≤ n := fun e => hn (.inr e)
    clear hn
    obtain ⟨N, rfl⟩ : ∃ N : Nat, n = (N : Int) := ⟨n.toNat, by omega⟩
    have hN : N < x.bs.length := by omega
    have HP : Hid (turnP T nm (N : Int) mk = ({ T with fs := T.fs.map (updF nm (Fl.turn N mk)) }, 0)) := by unfold turnP; rw [if_pos he, if_neg hn0]; rfl
    have HC : Hid (∀ W, Below w.heap.size w W → Calls Try.prog 95 #[.pointer (some ⟨r, 0, none⟩), .agg #[.int .i64 5, .string ⟨nm.toArray⟩, .slice none 0 0, .int .i64 (N : Int), .int .u8 (mk.toNat : Int)]] W fun e w' => e = .returned (.tuple #[]) ∧ RNx W w' r a xs { T with fs := T.fs.map (updF nm (Fl.turn N mk)) }) := fun W hb => by
      have hd := rDid_turn (h.below hb) hI.len x hmem (by rw [hx]; exact hf) N hN (hI.hu x hmem) mk
      rw [hx] at hd
      refine hd.mono ?_
      rintro e w' ⟨rfl, f, f1, f2, f3, hnk⟩
      have hnx := hnk.x
      rw [show storeL f false xs = l ++ ([f] ++ t) by rw [hxs]; exact storeL_hit (hx.trans f1.symm) (by rw [f1]; exact ht1) false (by rw [f1]; exact hl1), upd_mid (g := Fl.turn N mk) hx hl2 ht1 (by show (⟨f.nm, f.bs, f.syn⟩ : Fl) = ⟨x.nm, x.bs.set N ((x.bs.getD N 0) ^^^ mk), x.syn⟩; rw [f1, f2, f3, hx]), ← hxs, ← h.fs] at hnx
      exact ⟨rfl, hnx⟩
    clear h hI hl he hxs hx hl1 ht1 hf HLc hmem hl2 hlen hn0 hN
    generalize (⟨nm.toArray⟩ : ByteArray) = s at *
    go_enter Try.func72, Try.ntmps72
    go_wp2_with fail
    refine HL.out.mono ?_
    rintro e w1 ⟨rfl, hb1⟩
    obtain ⟨V6, hV6⟩ : ∃ V6, w1.alloc (.cells #[.string ⟨x.nm.toArray⟩, .bool true, .slice x.a x.bs.length x.cap, .int .i64 (x.syn : Int)] 126) = V6 := ⟨_, rfl⟩
    have hb6 : Below w.heap.size w V6 := by rw [← hV6]; exact hb1.alloc hb1.size _
    have hh6 : V6.heap[w1.heap.size]? = some (.cells #[.string ⟨x.nm.toArray⟩, .bool true, .slice x.a x.bs.length x.cap, .int .i64 (x.syn : Int)] 126) := by rw [← hV6]; exact (MapKept.heap_alloc w1 _).1
    obtain ⟨t0, t1, t2, t3⟩ := box4 hh6
    have HB : Hid (Below w.heap.size w V6) := hb6
    clear hb1 hb6 hh6
    go_wp2_with fail
    refine (HC.out _ HB.out).mono ?_
    rintro e w2 ⟨rfl, hnx⟩
    have HY : Hid (RNx w w2 r a xs { T with fs := T.fs.map (updF nm (Fl.turn N mk)) }) := RNx.wrap HB.out (Chg.refl _ _) hnx
    clear hnx
    go_wp2_with fail
    go_ret
    rw [HP.out]
    exact ⟨rfl, HY.out⟩
  · have HP : Hid (turnP T nm n mk = (T, findE T nm)) := by unfold turnP; rw [if_neg he]; rfl
    have HL : Hid (Calls Try.prog 93 #[.pointer (some ⟨r, 0, none⟩), .string ⟨nm.toArray⟩, .bool true] w fun e w' => e = .returned (.tuple #[.agg #[.string ⟨#[]⟩, .bool false, .slice none 0 0, .int .i64 0], .int .i64 (findE T nm)]) ∧ Below w.heap.size w w') := rLook_bad h hI nm hl he
    have hb : (findE T nm != 0) = true := bne_iff_ne.2 he
    have HH : Hid (RefAt w r T Kk a c xs) := h
    clear h hI hl he
    generalize findE T nm = er at *
    generalize (⟨nm.toArray⟩ : ByteArray) = s at *
    go_enter Try.func72, Try.ntmps72
    go_wp2_with fail
    refine HL.out.mono ?_
    rintro e w1 ⟨rfl, hb1⟩
    have HB : Hid (Below w.heap.size w w1) := hb1
    clear hb1
    go_wp2_with fail
    go_ret
    rw [HP.out]
    exact ⟨rfl, HH.out.nxt (HB.out.alloc HB.out.size _)⟩
end Go.Proofs.Ytfehgaioioejoaa

/-! The reference's Read. -/
namespace Go.Proofs.Ytfehgaioioejoaa
open Go.RowKit Go.Lib
set_option maxRecDepth 100000

variable {w : World} {r c : Nat} {T : Dk} {Kk : Int} {a : Option Addr} {xs : List Rf}
def ReadQ (w : World) (l : List UInt8) (er : Int) (e : Ending) (w' : World) : Prop := ∃ a cap, e = .returned (.tuple #[.slice a l.length cap, .int .i64 er]) ∧ OwnF byU 1 5 w' w.heap.size (.slice a l.length cap) l ∧ Below w.heap.size w w'
set_option maxHeartbeats 4000000 in
theorem rRead (h : RefAt w r T Kk a c xs) (hI : RIn T xs) (nm : List UInt8) (hl : nm.length ≤ 9223372036854775807) (off n : Int) (ho : off ≤ 9223372036854775807) (hn0 : n ≤ 9223372036854775807) :
    Calls Try.prog 64 #[.pointer (some ⟨r, 0, none⟩), .string ⟨nm.toArray⟩, .int .i64 off, .int .i64 n] w fun e w' => ReadQ w (readP T nm off n).1 (readP T nm off n).2 e w' := by
  by_cases he : findE T nm = 0
  · skip
    obtain ⟨l, x, t, hxs, hx, hl1, ht1, hf, HLc⟩ := rLook_good h hI nm hl he
    have HL : Hid (Calls Try.prog 93 #[.pointer (some ⟨r, 0, none⟩), .string ⟨nm.toArray⟩, .bool true] w fun e w' => e = .returned (.tuple #[.agg #[.string ⟨x.nm.toArray⟩, .bool true, .slice x.a x.bs.length x.cap, .int .i64 (x.syn : Int)], .int .i64 0]) ∧ Below w.heap.size w w') := HLc
    have hmem : x ∈ xs := by rw [hxs]; simp
    have hl2 : ∀ y ∈ l, y.nm ≠ nm := fun y hy => (hl1 y hy).1
    have HH : Hid (RefAt w r T Kk a c xs) := h
    have hlen : lenF T.fs nm = x.bs.length := by unfold lenF; rw [h.fs, hxs, lenF_midR hx hl2]; rfl
    have hby : bytesF T.fs nm = x.bs := by unfold bytesF; rw [h.fs, hxs, lenF_midR hx hl2]; rfl
    have hxu := hI.hu x hmem
    have hrw := h.bys x hmem
    by_cases hbad : off < 0 ∨ n < 0 ∨ (lenF T.fs nm : Int) - off < n
    · have HP : Hid (readP T nm off n = ([], 12)) := by unfold readP; rw [if_pos he, if_pos hbad]; rfl
      have hbad0 := hbad
      rw [hlen] at hbad
      by_cases b1 : off < 0
      · skip
        clear h hI hl he hxs hx hl1 ht1 hf HLc hmem hl2 hlen hby hxu hrw ho hn0 hbad hbad0 
        generalize (⟨nm.toArray⟩ : ByteArray) = s at *
        go_enter Try.func64, Try.ntmps64
        go_wp2_with fail
        refine HL.out.mono ?_
        rintro e w1 ⟨rfl, hb1⟩
        obtain ⟨V6, hV6⟩ : ∃ V6, w1.alloc (.cells #[.string ⟨x.nm.toArray⟩, .bool true, .slice x.a x.bs.length x.cap, .int .i64 (x.syn : Int)] 126) = V6 := ⟨_, rfl⟩
        have hb6 : Below w.heap.size w V6 := by rw [← hV6]; exact hb1.alloc hb1.size _
        have hh6 : V6.heap[w1.heap.size]? = some (.cells #[.string ⟨x.nm.toArray⟩, .bool true, .slice x.a x.bs.length x.cap, .int .i64 (x.syn : Int)] 126) := by rw [← hV6]; exact (MapKept.heap_alloc w1 _).1
        obtain ⟨t0, t1, t2, t3⟩ := box4 hh6
        have HB : Hid (Below w.heap.size w V6) := hb6
        clear hb1 hb6 hh6
        go_wp2_with fail
        go_ret2
        rw [HP.out]
        exact ⟨none, 0, rfl, ownF_nil _ _, HB.out⟩
      · by_cases b2 : n < 0
        · skip
          clear h hI hl he hxs hx hl1 ht1 hf HLc hmem hl2 hlen hby hxu hrw ho hn0 hbad hbad0 
          generalize (⟨nm.toArray⟩ : ByteArray) = s at *
          go_enter Try.func64, Try.ntmps64
          go_wp2_with fail
          refine HL.out.mono ?_
          rintro e w1 ⟨rfl, hb1⟩
          obtain ⟨V6, hV6⟩ : ∃ V6, w1.alloc (.cells #[.string ⟨x.nm.toArray⟩, .bool true, .slice x.a x.bs.length x.cap, .int .i64 (x.syn : Int)] 126) = V6 := ⟨_, rfl⟩
          have hb6 : Below w.heap.size w V6 := by rw [← hV6]; exact hb1.alloc hb1.size _
          have hh6 : V6.heap[w1.heap.size]? = some (.cells #[.string ⟨x.nm.toArray⟩, .bool true, .slice x.a x.bs.length x.cap, .int .i64 (x.syn : Int)] 126) := by rw [← hV6]; exact (MapKept.heap_alloc w1 _).1
          obtain ⟨t0, t1, t2, t3⟩ := box4 hh6
          have HB : Hid (Below w.heap.size w V6) := hb6
          clear hb1 hb6 hh6
          go_wp2_with fail
          go_ret2
          rw [HP.out]
          exact ⟨none, 0, rfl, ownF_nil _ _, HB.out⟩
        · by_cases b4 : (x.bs.length : Int) < off
          · skip
            clear h hI hl he hxs hx hl1 ht1 hf HLc hmem hl2 hlen hby hxu hrw ho hn0 hbad hbad0 
            generalize (⟨nm.toArray⟩ : ByteArray) = s at *
            go_enter Try.func64, Try.ntmps64
            go_wp2_with fail
            refine HL.out.mono ?_
            rintro e w1 ⟨rfl, hb1⟩
            obtain ⟨V6, hV6⟩ : ∃ V6, w1.alloc (.cells #[.string ⟨x.nm.toArray⟩, .bool true, .slice x.a x.bs.length x.cap, .int .i64 (x.syn : Int)] 126) = V6 := ⟨_, rfl⟩
            have hb6 : Below w.heap.size w V6 := by rw [← hV6]; exact hb1.alloc hb1.size _
            have hh6 : V6.heap[w1.heap.size]? = some (.cells #[.string ⟨x.nm.toArray⟩, .bool true, .slice x.a x.bs.length x.cap, .int .i64 (x.syn : Int)] 126) := by rw [← hV6]; exact (MapKept.heap_alloc w1 _).1
            obtain ⟨t0, t1, t2, t3⟩ := box4 hh6
            have HB : Hid (Below w.heap.size w V6) := hb6
            clear hb1 hb6 hh6
            go_wp2_with fail
            go_ret2
            rw [HP.out]
            exact ⟨none, 0, rfl, ownF_nil _ _, HB.out⟩
          · have g0 : IntKind.i64.wrap ((x.bs.length : Int) - off) = (x.bs.length : Int) - off := IntWalk.i64_in _ (by omega)
            have b3 : (x.bs.length : Int) - off < n := by omega
            clear h hI hl he hxs hx hl1 ht1 hf HLc hmem hl2 hlen hby hxu hrw ho hn0 hbad hbad0 
            generalize (⟨nm.toArray⟩ : ByteArray) = s at *
            go_enter Try.func64, Try.ntmps64
            go_wp2_with fail
            refine HL.out.mono ?_
            rintro e w1 ⟨rfl, hb1⟩
            obtain ⟨V6, hV6⟩ : ∃ V6, w1.alloc (.cells #[.string ⟨x.nm.toArray⟩, .bool true, .slice x.a x.bs.length x.cap, .int .i64 (x.syn : Int)] 126) = V6 := ⟨_, rfl⟩
            have hb6 : Below w.heap.size w V6 := by rw [← hV6]; exact hb1.alloc hb1.size _
            have hh6 : V6.heap[w1.heap.size]? = some (.cells #[.string ⟨x.nm.toArray⟩, .bool true, .slice x.a x.bs.length x.cap, .int .i64 (x.syn : Int)] 126) := by rw [← hV6]; exact (MapKept.heap_alloc w1 _).1
            obtain ⟨t0, t1, t2, t3⟩ := box4 hh6
            have HB : Hid (Below w.heap.size w V6) := hb6
            clear hb1 hb6 hh6
            go_wp2_with fail
            go_ret2
            rw [HP.out]
            exact ⟨none, 0, rfl, ownF_nil _ _, HB.out⟩
    · have hb2 := hbad
      rw [hlen] at hb2
      have b1 : ¬ off < 0 := fun e => hb2 (.inl e)
      have b2 : ¬ n < 0 := fun e => hb2 (.inr (.inl e))
      have b3 : ¬ (x.bs.length : Int) - off < n := fun e => hb2 (.inr (.inr e))
      obtain ⟨lo, rfl⟩ : ∃ m : Nat, off = (m : Int) := ⟨off.toNat, by omega⟩
      obtain ⟨k, rfl⟩ : ∃ m : Nat, n = (m : Int) := ⟨n.toNat, by omega⟩
      have b4 : ¬ (x.bs.length : Int) < (lo : Int) := by omega
      have hkl : ((x.bs.drop lo).take k).length = k := by rw [List.length_take, List.length_drop]; omega
      obtain ⟨a', cap', hcut, _⟩ := cutM hrw lo k (by omega)
      have g0 : IntKind.i64.wrap ((x.bs.length : Int) - (lo : Int)) = (x.bs.length : Int) - (lo : Int) := IntWalk.i64_in _ (by omega)
      have g1 : IntKind.i64.wrap ((lo : Int) + (k : Int)) = ((lo + k : Nat) : Int) := by rw [IntWalk.i64_in _ (by omega)]; omega
      obtain ⟨e9, he9⟩ : ∃ m : Nat, m = lo + k := ⟨_, rfl⟩
      have HCL : Hid (∀ W, Below w.heap.size w W → Calls Try.prog 92 #[.slice a' k cap'] W fun e w' => ∃ a'' cap'', e = .returned (.slice a'' k cap'') ∧ OwnF byU 1 5 w' W.heap.size (.slice a'' k cap'') ((x.bs.drop lo).take k) ∧ Below W.heap.size W w') := fun W hb => by
        obtain ⟨a1, cap1, hcut1, hrw1⟩ := cutM (hrw.below hb) lo k (by omega)
        have e1 := (hcut w).symm.trans (hcut1 w)
        simp only [Result.ok.injEq, Value.slice.injEq, true_and, and_true] at e1
        obtain ⟨rfl, rfl⟩ := e1
        exact rCopied hrw1 (by omega)
      rw [← he9] at hcut g1
      have HP : Hid (readP T nm lo k = ((x.bs.drop lo).take k, 0) ∧ ((x.bs.drop lo).take k).length = k) := ⟨by unfold readP; rw [if_pos he, if_neg hbad, hby]; rfl, hkl⟩
      clear h hI hl he hxs hx hl1 ht1 hf HLc hmem hl2 hlen hby hxu hrw ho hn0 hbad hb2 hkl he9
      generalize (x.bs.drop lo).take k = res at *
      generalize (⟨nm.toArray⟩ : ByteArray) = s at *
      go_enter Try.func64, Try.ntmps64
      go_wp2_with fail
      refine HL.out.mono ?_
      rintro e w1 ⟨rfl, hb1⟩
      obtain ⟨V6, hV6⟩ : ∃ V6, w1.alloc (.cells #[.string ⟨x.nm.toArray⟩, .bool true, .slice x.a x.bs.length x.cap, .int .i64 (x.syn : Int)] 126) = V6 := ⟨_, rfl⟩
      have hb6 : Below w.heap.size w V6 := by rw [← hV6]; exact hb1.alloc hb1.size _
      have hh6 : V6.heap[w1.heap.size]? = some (.cells #[.string ⟨x.nm.toArray⟩, .bool true, .slice x.a x.bs.length x.cap, .int .i64 (x.syn : Int)] 126) := by rw [← hV6]; exact (MapKept.heap_alloc w1 _).1
      obtain ⟨t0, t1, t2, t3⟩ := box4 hh6
      have HB : Hid (Below w.heap.size w V6) := hb6
      clear hb1 hb6 hh6
      go_wp2_with fail
      refine (HCL.out _ HB.out).mono ?_
      rintro e w2 ⟨a2, c2, rfl, ho2, hb2⟩
      have HX : Hid (OwnF byU 1 5 w2 w.heap.size (.slice a2 k c2) res ∧ Below w.heap.size w w2) := ⟨ho2.mono HB.out.size, HB.out.trans (hb2.mono HB.out.size)⟩
      clear ho2 hb2
      go_wp2_with fail
      go_ret2
      rw [HP.out.1]
      refine ⟨a2, c2, ?_, ?_, HX.out.2⟩
      · rw [HP.out.2]; rfl
      · rw [HP.out.2]; exact HX.out.1
  · have HP : Hid (readP T nm off n = ([], findE T nm)) := by unfold readP; rw [if_neg he]; rfl
    have HL : Hid (Calls Try.prog 93 #[.pointer (some ⟨r, 0, none⟩), .string ⟨nm.toArray⟩, .bool true] w fun e w' => e = .returned (.tuple #[.agg #[.string ⟨#[]⟩, .bool false, .slice none 0 0, .int .i64 0], .int .i64 (findE T nm)]) ∧ Below w.heap.size w w') := rLook_bad h hI nm hl he
    have hb : (findE T nm != 0) = true := bne_iff_ne.2 he
    clear h hI hl he ho hn0
    generalize findE T nm = er at *
    generalize (⟨nm.toArray⟩ : ByteArray) = s at *
    go_enter Try.func64, Try.ntmps64
    go_wp2_with fail
    refine HL.out.mono ?_
    rintro e w1 ⟨rfl, hb1⟩
    have HB : Hid (Below w.heap.size w w1) := hb1
    clear hb1
    go_wp2_with fail
    go_ret2
    rw [HP.out]
    exact ⟨none, 0, rfl, ownF_nil _ _, HB.out.alloc HB.out.size _⟩
end Go.Proofs.Ytfehgaioioejoaa

/-! The reference's Files. -/
namespace Go.Proofs.Ytfehgaioioejoaa
open Go.RowKit Go.Lib
set_option maxRecDepth 100000

variable {w : World} {r c : Nat} {T : Dk} {Kk : Int} {a : Option Addr} {xs : List Rf}
set_option maxHeartbeats 4000000 in
theorem rFiles (h : RefAt w r T Kk a c xs) (hn : xs.length ≤ 1073741823) (hu : ∀ x ∈ xs, x.bs.length ≤ 1099511627776) :
    Calls Try.prog 66 #[.pointer (some ⟨r, 0, none⟩)] w fun e w' => ∃ (a' : Option Addr) (c' : Nat) (us : List Fv), e = .returned (.slice a' xs.length c') ∧ Ow w w' (xs.map Rf.fl) xs.length (.slice a' xs.length c') us := by
  obtain ⟨c0, c1, c2, c3, c4⟩ := box5 h.box
  have HH : Hid (RefAt w r T Kk a c xs ∧ xs.length ≤ 1073741823 ∧ ∀ x ∈ xs, x.bs.length ≤ 1099511627776) := ⟨h, hn, hu⟩
  have hnc : (xs.length : Int) ≤ 1073741823 := by omega
  clear h c0 c2 c3 c4 hn hu
  obtain ⟨n, hn⟩ : ∃ n, xs.length = n := ⟨_, rfl⟩
  have HN : Hid (xs.length = n) := hn
  rw [hn] at c1 hnc
  rw [hn]
  clear hn c1
  go_enter Try.func66, Try.ntmps66
  go_wp2_with fail
  go_loopw [3, 4] (fun vo vi wr => ∃ i : Nat, i ≤ n ∧ vi = .int .i64 (i : Int) ∧ ∃ (a' : Option Addr) (c' : Nat) (us : List Fv), vo = .slice a' i c' ∧ Hid (Ow w wr (xs.map Rf.fl) i (.slice a' i c') us)) (fun _ vi _ => n - (RowKit.intOf vi).toNat)
  case atStart => exact ⟨0, Nat.zero_le _, rfl, none, 0, [], rfl, ownF_nil _ _, rfl, fun j u f hu => by simp at hu, Below.refl _ _⟩
  case round =>
    obtain ⟨wo, hwo⟩ : ∃ wo, wo = wr := ⟨_, rfl⟩
    subst hwo
    obtain ⟨i, hi, rfl, a', c', us, rfl, hS⟩ := hrel
    have hRw := HH.out.1.below hS.out.below
    have c1 := (box5 hRw.box).2.1
    rw [HN.out] at c1
    by_cases hlt : i < n
    · have hlt2 : (i : Int) < (n : Int) := by omega
      have gi : IntKind.i64.wrap ((i : Int) + 1) = ((i + 1 : Nat) : Int) := by rw [IntWalk.i64_in _ (by omega)]; omega
      have hrow := hRw.row
      rw [HN.out] at hrow
      obtain ⟨g, off, o, hoa, hgl, hoi, hcell⟩ := hrow.at i hlt
      subst hoa
      have o0 := hcell 0 _ rfl
      have o1 := hcell 1 _ rfl
      have o2 := hcell 2 _ rfl
      have o3 := hcell 3 _ rfl
      rw [Nat.add_zero] at o0
      have hmem : o ∈ xs := List.mem_of_getElem? hoi
      obtain ⟨V5, hV5⟩ : ∃ V5, wo.alloc (.cells #[.string ⟨#[]⟩, .bool false, .slice none 0 0, .int .i64 0] 126) = V5 := ⟨_, rfl⟩
      have hV5b : Below wo.heap.size wo V5 := by rw [← hV5]; exact (Below.refl _ _).alloc (Nat.le_refl _) _
      have hV5h : V5.heap[wo.heap.size]? = some (.cells #[.string ⟨#[]⟩, .bool false, .slice none 0 0, .int .i64 0] 126) := by rw [← hV5]; exact (MapKept.heap_alloc wo _).1
      obtain ⟨V6, hV6, hh9, hC9⟩ := set4 hV5h (.string ⟨o.nm.toArray⟩) (.bool true) (.slice o.a o.bs.length o.cap) (.int .i64 (o.syn : Int))
      obtain ⟨y0, y1, y2, y3⟩ := box4 hV5h
      have k0 := Lib.frozen_of_heap hV5h 0
      have k1 := Lib.frozen_of_heap hV5h 1
      have k2 := Lib.frozen_of_heap hV5h 2
      have k3 := Lib.frozen_of_heap hV5h 3
      obtain ⟨r0, r1, r2, r3⟩ := box4 hh9
      have hb6 : Below wo.heap.size wo V6 := hV5b.trans (hC9.below (fun x e => by omega) hV5b.size)
      have HV6 : Hid (V6.heap[wo.heap.size]? = some (.cells #[.string ⟨o.nm.toArray⟩, .bool true, .slice o.a o.bs.length o.cap, .int .i64 (o.syn : Int)] 126) ∧ Below w.heap.size w V6 ∧ Ow w V6 (xs.map Rf.fl) i (.slice a' i c') us ∧ wo.heap.size < V6.heap.size ∧ w.heap.size ≤ wo.heap.size) := ⟨hh9, hS.out.below.trans (hb6.mono hS.out.below.size), hS.out.grow hb6, (Array.getElem?_eq_some_iff.1 hh9).1, hS.out.below.size⟩
      have HX : Hid ((xs.map Rf.fl)[i]? = some o.fl ∧ Rw byU 1 w o.a o.bs.length o.cap o.bs ∧ o.bs.length ≤ 1099511627776 ∧ us.length = i) := ⟨by rw [List.getElem?_map, hoi]; rfl, HH.out.1.bys o hmem, HH.out.2.2 o hmem, hS.out.len⟩
      clear hcell hgl hoi hrow hRw hmem hV5b hV5h hC9 hh9 hb6
      go_wp2_with fail
      have HKP : Hid (∀ W : World, W.heap[wo.heap.size]? = V6.heap[wo.heap.size]? → (fun W => W.cell? ⟨wo.heap.size, 0, none⟩ = some (.string ⟨o.nm.toArray⟩) ∧ W.cell? ⟨wo.heap.size, 2, none⟩ = some (.slice o.a o.bs.length o.cap) ∧ W.cell? ⟨wo.heap.size, 3, none⟩ = some (.int .i64 (o.syn : Int))) W) := fun W e => by
        have hq := box4 (e.trans HV6.out.1)
        exact ⟨hq.1, hq.2.2.1, hq.2.2.2⟩
      clear hV6 hV5 y0 y1 y2 y3 k0 k1 k2 k3 r0 r1 r2 r3 o0 o1 o2 o3 c1
      refine wp_region_held_drew (S := (fun W => W.cell? ⟨wo.heap.size, 0, none⟩ = some (.string ⟨o.nm.toArray⟩) ∧ W.cell? ⟨wo.heap.size, 2, none⟩ = some (.slice o.a o.bs.length o.cap) ∧ W.cell? ⟨wo.heap.size, 3, none⟩ = some (.int .i64 (o.syn : Int)))) (by kernel_rfl) ?hS1 (fun hHeld => ?rest1)
      case hS1 => exact HKP.out _ rfl
      refine takeD (i := 0) (d := some 22) (v := ?vT2) rfl rfl (by kernel_rfl) (by kernel_rfl) (by kernel_rfl) (fun _ _ _ h => h) (Or.inl ⟨by rfl, ?hyT2⟩) (by assumption) ?rstT2
      case hyT2 => (intro w hSw; (try dsimp only at hSw); go_simp; (try with_reducible rfl))
      try simp only [Act.put, List.setIfInBounds_toArray, List.set_cons_zero, List.set_cons_succ]
      refine takeD (i := 1) (d := some 23) (v := ?vT3) rfl rfl (by kernel_rfl) (by kernel_rfl) (by kernel_rfl) (fun _ _ _ h => h) (Or.inl ⟨by rfl, ?hyT3⟩) (by assumption) ?rstT3
      case hyT3 => (intro w hSw; (try dsimp only at hSw); go_simp; (try with_reducible rfl))
      try simp only [Act.put, List.setIfInBounds_toArray, List.set_cons_zero, List.set_cons_succ]
      refine takeD (i := 2) (d := some 24) (v := ?vT4) rfl rfl (by kernel_rfl) (by kernel_rfl) (by kernel_rfl) (fun _ _ _ h => h) (Or.inl ⟨by rfl, ?hyT4⟩) (by assumption) ?rstT4
      case hyT4 => (intro w hSw; (try dsimp only at hSw); go_simp; (try with_reducible rfl))
      try simp only [Act.put, List.setIfInBounds_toArray, List.set_cons_zero, List.set_cons_succ]
      refine takeD (i := 3) (d := some 25) (v := ?vT5) rfl rfl (by kernel_rfl) (by kernel_rfl) (by kernel_rfl) (fun _ _ _ h => h) (Or.inl ⟨by rfl, ?hyT5⟩) (by assumption) ?rstT5
      case hyT5 => (intro w hSw; (try dsimp only at hSw); go_simp; (try with_reducible rfl))
      try simp only [Act.put, List.setIfInBounds_toArray, List.set_cons_zero, List.set_cons_succ]
      refine takeD (i := 4) (d := some 26) (v := ?vT6) rfl rfl (by kernel_rfl) (by kernel_rfl) (by kernel_rfl) (fun _ _ _ h => h) (Or.inl ⟨by rfl, ?hyT6⟩) (by assumption) ?rstT6
      case hyT6 => (intro w hSw; (try dsimp only at hSw); go_simp; (try with_reducible rfl))
      try simp only [Act.put, List.setIfInBounds_toArray, List.set_cons_zero, List.set_cons_succ]
      refine takeD (i := 6) (d := some 28) (v := ?vT7) rfl rfl (by kernel_rfl) (by kernel_rfl) (by kernel_rfl) (fun _ _ _ h => h) (Or.inl ⟨by rfl, ?hyT7⟩) (by assumption) ?rstT7
      case hyT7 => (intro w hSw; (try dsimp only at hSw); go_simp; (try with_reducible rfl))
      try simp only [Act.put, List.setIfInBounds_toArray, List.set_cons_zero, List.set_cons_succ]
      refine takeD (i := 7) (d := some 29) (v := ?vT8) rfl rfl (by kernel_rfl) (by kernel_rfl) (by kernel_rfl) (fun _ _ _ h => h) (Or.inl ⟨by rfl, ?hyT8⟩) (by assumption) ?rstT8
      case hyT8 => (intro w hSw; (try dsimp only at hSw); go_simp; (try with_reducible rfl))
      try simp only [Act.put, List.setIfInBounds_toArray, List.set_cons_zero, List.set_cons_succ]
      refine wpAnyH_ready (rs := [5]) (by kernel_rfl) (by simp) ?_
      refine AllReadyH.cons rfl (fun K hK => ?_) AllReadyH.nil
      go_simp
      refine (rCopied ((HX.out.2.1.below HV6.out.2.1).below ((Below.refl _ _).drew)) (by have := HX.out.2.2.1; omega)).mono ?_
      rintro e w5 ⟨a5, c5, rfl, ho5, hb5⟩
      have hcur5 : Below V6.heap.size V6 w5 := ((Below.refl _ _).drew).trans hb5
      have HO5 : Hid (Ow w w5 (xs.map Rf.fl) i (.slice a' i c') us ∧ Cpy w5 w.heap.size ⟨o.nm, a5, o.bs.length, c5, o.syn⟩ o.fl ∧ Below V6.heap.size V6 w5) := ⟨HV6.out.2.2.1.grow hcur5, ⟨rfl, rfl, rfl, ho5.mono HV6.out.2.1.size⟩, hcur5⟩
      clear ho5 hb5 hcur5
      clear hHeld
      refine hK.out _ _ ?hS9 (fun hHeld => ?rest9)
      case hS9 => exact HKP.out _ (HO5.out.2.2.block _ HV6.out.2.2.2.1)
      clear hK K
      try simp only [Act.put, List.setIfInBounds_toArray, List.set_cons_zero, List.set_cons_succ]
      refine takeD (i := 8) (d := some 30) (v := ?vT10) rfl rfl (by kernel_rfl) (by kernel_rfl) (by kernel_rfl) (fun _ _ _ h => h) (Or.inl ⟨by rfl, ?hyT10⟩) (by assumption) ?rstT10
      case hyT10 => (intro w hSw; (try dsimp only at hSw); go_simp; (try with_reducible rfl))
      try simp only [Act.put, List.setIfInBounds_toArray, List.set_cons_zero, List.set_cons_succ]
      refine wpAnyH_ready (rs := [9]) (by kernel_rfl) (by simp) ?_
      refine AllReadyH.cons rfl (fun K hK => ?_) AllReadyH.nil
      obtain ⟨g8, cap8, w8, hr8, ho8, hb8, hk8, hs8, hat8⟩ := appendF_wide kindFv layFv HO5.out.1.row HO5.out.1.below.size (⟨o.nm, a5, o.bs.length, c5, o.syn⟩ : Fv) #[.string ⟨o.nm.toArray⟩, .slice a5 o.bs.length c5, .int .i64 (o.syn : Int)] rfl 73 (by have := HX.out.2.2.2; omega) (by have := HX.out.2.2.2; omega) 22
      rw [HX.out.2.2.2] at hr8 ho8
      have hne : (Value.slice a' i c').ownBlock ≠ some wo.heap.size := fun e => by have := hS.out.row.lt e; omega
      have HN9 : Hid (Ow w w8 (xs.map Rf.fl) (i + 1) (.slice (some ⟨g8, 0, none⟩) (i + 1) cap8) (us ++ [⟨o.nm, a5, o.bs.length, c5, o.syn⟩]) ∧ w8.heap[wo.heap.size]? = V6.heap[wo.heap.size]?) := ⟨HO5.out.1.next HX.out.1 HO5.out.2.1 ho8 hb8 hk8, (hk8 _ (by have := HV6.out.2.2.2.1; have := HO5.out.2.2.size; omega) hne).trans (HO5.out.2.2.block _ HV6.out.2.2.2.1)⟩
      clear ho8 hb8 hk8 hs8 hat8 hne
      go_simp
      clear hHeld
      refine hK.out _ _ ?hS11 (fun hHeld => ?rest11)
      case hS11 => exact HKP.out _ (((Below.refl w5.heap.size w5).alloc (Nat.le_refl _) _).block _ (by have := HV6.out.2.2.2.1; have := HO5.out.2.2.size; omega) |>.trans (HO5.out.2.2.block _ HV6.out.2.2.2.1))
      clear hK K
      try simp only [Act.put, List.setIfInBounds_toArray, List.set_cons_zero, List.set_cons_succ]
      refine wpAnyH_ready (rs := [10]) (by kernel_rfl) (by simp) ?_
      refine AllReadyH.cons rfl (fun K hK => ?_) AllReadyH.nil
      rw [if_pos (by rfl)]
      refine wp_append_hr (.tmp 22) (.tmp 31) 22 (some 32) rfl rfl _ _ rfl rfl hr8 ?_
      clear hHeld
      refine hK.out _ _ ?hS12 (fun hHeld => ?rest12)
      case hS12 => exact HKP.out _ HN9.out.2
      clear hK K
      try simp only [Act.put, List.setIfInBounds_toArray, List.set_cons_zero, List.set_cons_succ]
      refine takeD (i := 11) (d := some 3) (v := ?vT13) rfl rfl (by kernel_rfl) (by kernel_rfl) (by kernel_rfl) (fun _ _ _ h => h) (Or.inl ⟨by rfl, ?hyT13⟩) (by assumption) ?rstT13
      case hyT13 => (intro w hSw; (try dsimp only at hSw); go_simp; (try with_reducible rfl))
      try simp only [Act.put, List.setIfInBounds_toArray, List.set_cons_zero, List.set_cons_succ]
      refine wpAnyH_done (by kernel_rfl) ?_ _
      go_wp2_with fail
      go_roundw
      case rel => exact ⟨i + 1, by omega, by first | rfl | go_num, _, _, _, rfl, HN9.out.1⟩
      case measure => simp [RowKit.intOf]; omega
    · obtain rfl : i = n := by omega
      have hlt2 : ¬ ((i : Int) < (i : Int)) := by omega
      clear hRw
      go_wp2_with fail
      go_ret
      exact ⟨a', c', rfl, us, hS.out⟩
end Go.Proofs.Ytfehgaioioejoaa

/-! The reference's Append. -/
namespace Go.Proofs.Ytfehgaioioejoaa
open Go.RowKit Go.Lib
set_option maxRecDepth 100000

theorem storeL_miss {f : Rf} : ∀ {xs : List Rf}, Str xs → (∀ x ∈ xs, x.nm ≠ f.nm) → (storeL f false xs).Perm (xs ++ [f]) ∧ Str (storeL f false xs)
  | [], _, _ => by
    unfold storeL
    exact ⟨List.Perm.refl _, List.pairwise_singleton ..⟩
  | g :: t, hs, hn => by
    have hs0 := hs
    unfold Str at hs
    rw [List.pairwise_cons] at hs
    have hng := hn g (List.mem_cons_self ..)
    have hnt : ∀ x ∈ t, x.nm ≠ f.nm := fun x hx => hn x (List.mem_cons_of_mem _ hx)
    by_cases hlt : Lib.compareBytes f.nm g.nm < 0
    · have hb : Op.bytesLess f.nm g.nm = true := by rw [bytesLess_cmp]; exact decide_eq_true hlt
      have e : storeL f false (g :: t) = f :: g :: t := by
        rw [storeL, hb, if_neg hng]
        simp [storeL_true hnt]
      rw [e]
      refine ⟨(List.perm_append_singleton f (g :: t)).symm, ?_⟩
      unfold Str
      rw [List.pairwise_cons]
      refine ⟨fun y hy => ?_, hs0⟩
      rcases List.mem_cons.1 hy with rfl | hy
      · exact hlt
      · exact cmp_trans _ _ _ hlt (hs.1 y hy)
    · have hb : Op.bytesLess f.nm g.nm = false := by rw [bytesLess_cmp]; exact decide_eq_false hlt
      have hgf : Lib.compareBytes g.nm f.nm < 0 := by
        by_cases h : Lib.compareBytes g.nm f.nm < 0
        · exact h
        · exact absurd (cmp_eq_of _ _ h hlt) hng
      obtain ⟨h1, h2⟩ := storeL_miss hs.2 hnt
      have e : storeL f false (g :: t) = g :: storeL f false t := by
        rw [storeL, hb, if_neg hng]
        simp [hng]
      rw [e]
      refine ⟨h1.cons g, ?_⟩
      unfold Str
      rw [List.pairwise_cons]
      refine ⟨fun y hy => ?_, h2⟩
      rcases mem_storeL hy with hy | ⟨_, rfl⟩
      · exact hs.1 y hy
      · exact hgf
theorem strF_of {xs : List Rf} (h : Str xs) : StrF (xs.map Rf.fl) := by
  unfold StrF
  rw [List.pairwise_map]
  exact h
/-- names decide -/
theorem strF_names {fs gs : List Fl} (h : StrF fs) (e : gs.map (·.nm) = fs.map (·.nm)) : StrF gs := by
  have h1 : (fs.map (·.nm)).Pairwise (fun a b => Lib.compareBytes a b < 0) := by rw [List.pairwise_map]; exact h
  rw [← e, List.pairwise_map] at h1
  exact h1
theorem strF_upd {fs : List Fl} (h : StrF fs) (nm : List UInt8) (g : Fl → Fl) (hg : ∀ f, (g f).nm = f.nm) : StrF (fs.map (updF nm g)) := by
  refine strF_names h ?_
  rw [List.map_map]
  refine List.map_congr_left fun f _ => ?_
  show (updF nm g f).nm = f.nm
  unfold updF
  split
  · exact hg f
  · rfl
theorem strF_filter {fs : List Fl} (h : StrF fs) (q : Fl → Bool) : StrF (fs.filter q) := List.Pairwise.sublist List.filter_sublist h
theorem strF_crash {T : Dk} (h : StrF T.fs) (k : Nat) : StrF (crashP k T).fs := by
  refine strF_filter (strF_names h ?_) _
  rw [List.map_map]
  rfl
/-- a put among the files -/
theorem put_perm {xs : List Rf} (hs : Str xs) {nm B : List UInt8} {f : Rf} (hf : f.nm = nm) : (∀ l x t, xs = l ++ x :: t → x.nm = nm → (∀ y ∈ l, y.nm ≠ nm ∧ Op.bytesLess nm y.nm = false) → (∀ y ∈ t, y.nm ≠ nm) → f.bs = x.bs ++ B → f.syn = x.syn → ((storeL f false xs).map Rf.fl).Perm (growP nm B (xs.map Rf.fl)) ∧ StrF ((storeL f false xs).map Rf.fl)) ∧
    ((∀ x ∈ xs, x.nm ≠ nm) → f.bs = B → f.syn = 0 → ((storeL f false xs).map Rf.fl).Perm (growP nm B (xs.map Rf.fl)) ∧ StrF ((storeL f false xs).map Rf.fl)) := by
  have hgr : growF nm B = updF nm (fun f => ⟨f.nm, f.bs ++ B, f.syn⟩) := rfl
  constructor
  · intro l x t hxs hx hl ht hb hsy
    have e1 : enter nm (xs.map Rf.fl) = xs.map Rf.fl := by
      unfold enter
      rw [if_pos]
      rw [List.any_map, List.any_eq_true]
      exact ⟨x, by rw [hxs]; simp, by simp [Rf.fl, hx]⟩
    have e2 : (storeL f false xs).map Rf.fl = growP nm B (xs.map Rf.fl) := by
      unfold growP
      rw [e1, hgr, show storeL f false xs = l ++ ([f] ++ t) by rw [hxs]; exact storeL_hit (hx.trans hf.symm) (by rw [hf]; exact ht) false (by rw [hf]; exact hl)]
      rw [upd_mid (g := fun f => ⟨f.nm, f.bs ++ B, f.syn⟩) hx (fun y hy => (hl y hy).1) ht (by show (⟨f.nm, f.bs, f.syn⟩ : Fl) = ⟨x.nm, x.bs ++ B, x.syn⟩; rw [hf, hb, hsy, hx]), ← hxs]
    rw [e2]
    refine ⟨List.Perm.refl _, ?_⟩
    unfold growP
    rw [e1, hgr]
    exact strF_upd (strF_of hs) nm _ (fun _ => rfl)
  · intro hn hb hsy
    obtain ⟨h1, h2⟩ := storeL_miss (f := f) hs (by rw [hf]; exact hn)
    refine ⟨?_, strF_of h2⟩
    have e1 : enter nm (xs.map Rf.fl) = xs.map Rf.fl ++ [⟨nm, [], 0⟩] := by
      unfold enter
      rw [if_neg]
      rw [List.any_map, Bool.not_eq_true, List.any_eq_false]
      intro y hy
      simp [Rf.fl, hn y hy]
    have hk : (xs.map Rf.fl).map (growF nm B) = xs.map Rf.fl := by
      rw [List.map_map]
      refine List.map_congr_left fun y hy => ?_
      show growF nm B y.fl = y.fl
      unfold growF
      exact if_neg (hn y hy)
    have e2 : growP nm B (xs.map Rf.fl) = (xs ++ [f]).map Rf.fl := by
      unfold growP
      rw [e1, List.map_append, hk, List.map_append]
      congr 1
      show [growF nm B ⟨nm, [], 0⟩] = [(⟨f.nm, f.bs, f.syn⟩ : Fl)]
      unfold growF
      rw [if_pos rfl, hf, hb, hsy]
      rfl
    rw [e2]
    exact h1.map _
variable {w : World} {r c : Nat} {T : Dk} {Kk : Int} {a : Option Addr} {xs : List Rf}
/-- What Append leaves: the files in some order. -/
def AppQ (w w' : World) (r : Nat) (a : Option Addr) (xs : List Rf) (T2 : Dk) : Prop := ∃ T' : Dk, Pm T2 T' ∧ StrF T'.fs ∧ RNx w w' r a xs T'
theorem put_cases (h : RefAt w r T Kk a c xs) (hI : RIn T xs) (nm : List UInt8) : ∃ (th : Bool) (xa : Option Addr) (xn xc y : Nat) (l0 : List UInt8), fileA xs nm = .agg #[.string ⟨nm.toArray⟩, .bool th, .slice xa xn xc, .int .i64 (y : Int)] ∧ Rw byU 1 w xa xn xc l0 ∧ y ≤ xn ∧ xn ≤ sumR xs ∧ (∀ q, xa = some q → q.block ≠ r) ∧ ∀ (f : Rf) (B : List UInt8), f.nm = nm → f.bs = l0 ++ B → f.syn = y → ((storeL f false xs).map Rf.fl).Perm (growP nm B T.fs) ∧ StrF ((storeL f false xs).map Rf.fl) := by
  have hs : Str xs := strF_str (by rw [← h.fs]; exact hI.str)
  rcases rcases hs nm with ⟨h1, _, hf⟩ | ⟨l, x, t, e, hx, hl1, ht1, _, hf⟩
  · exact ⟨false, none, 0, 0, 0, [], hf, rw_nil w, Nat.le_refl _, Nat.zero_le _, (fun q e => by cases e), fun f B f1 f2 f3 => by rw [h.fs]; exact (put_perm hs f1).2 h1 (by simpa using f2) f3⟩
  · have hm : x ∈ xs := by rw [e]; simp
    refine ⟨true, x.a, x.bs.length, x.cap, x.syn, x.bs, by rw [hf, ← hx]; rfl, h.bys x hm, h.syn x hm, mem_sumR hm, h.rx x hm, fun f B f1 f2 f3 => by rw [h.fs]; exact (put_perm hs f1).1 l x t e hx hl1 ht1 f2 f3⟩
set_option maxHeartbeats 4000000 in
theorem rAppend (h : RefAt w r T Kk a c xs) (hI : RIn T xs) (hle : xs.length ≤ 1000000000) (nm : List UInt8) (hl : nm.length ≤ 9223372036854775807) {b : Option Addr} {bn bc : Nat} {B : List UInt8} (hBB : ∀ W, Chg (fun g => g = r) w W → Rw byU 1 W b bn bc B) (hbn : bn ≤ 140737488351232) :
    Calls Try.prog 60 #[.pointer (some ⟨r, 0, none⟩), .string ⟨nm.toArray⟩, .slice b bn bc] w fun e w' => e = .returned (.tuple #[.int .i64 (appC T nm B).2.1, .int .i64 (appC T nm B).2.2]) ∧ AppQ w w' r a xs (appC T nm B).1 := by
  by_cases hr : readyP T nm = 0
  · obtain ⟨th, xa, xn, xc, y, l0, hfa, hl0, hy, hxn, hxr, hperm⟩ := put_cases h hI nm
    have hB := hBB w (Chg.refl _ _)
    have HL : Hid (Calls Try.prog 93 #[.pointer (some ⟨r, 0, none⟩), .string ⟨nm.toArray⟩, .bool false] w fun e w' => e = .returned (.tuple #[.agg #[.string ⟨nm.toArray⟩, .bool th, .slice xa xn xc, .int .i64 (y : Int)], .int .i64 0]) ∧ Below w.heap.size w w') := rLook_ok h (by have := hI.len; omega) nm hl false hr ⟨nm.toArray⟩ th xa xn xc (y : Int) hfa (.inl rfl)
    have hBl := hB.len
    have huse := hI.use
    have hlim := hI.lim
    have hfsu : used T.fs = sumR xs := by rw [h.fs]; exact sumR_used xs
    obtain ⟨N, hN⟩ : ∃ N, takeN T B.length = N := ⟨_, rfl⟩
    have hNv : N = min bn (T.limit - sumR xs) := by rw [← hN]; unfold takeN; rw [hfsu, hBl]
    have HU : Hid (∀ W, Below w.heap.size w W → Calls Try.prog 67 #[.pointer (some ⟨r, 0, none⟩)] W fun e w' => e = .returned (.int .i64 (sumR xs : Int)) ∧ w' = W) := fun W hb => rUsed (h.below hb) (by have := hI.len; omega) (by omega)
    have HFI : Hid (∀ W, Below w.heap.size w W → Calls Try.prog 94 #[.pointer (some ⟨r, 0, none⟩)] W fun e w' => e = .returned (.bool (decide (T.steps = 1))) ∧ RefAt w' r (stepS T) Kk a c xs ∧ Chg (fun g => g = r) W w') := fun W hb => rFires (h.below hb) hI.st
    have g0 : IntKind.i64.wrap ((T.limit : Int) - (sumR xs : Int)) = ((T.limit - sumR xs : Nat) : Int) := by rw [IntWalk.i64_in _ (by omega)]; omega
    have HM : ∀ ats ty W, (Builtin.min_ ats ty #[.int .i64 (bn : Int), .int .i64 ((T.limit - sumR xs : Nat) : Int)]).run Try.prog W = .ok (.int .i64 (N : Int)) W := fun ats ty W => by
      rw [min_run, hNv]; congr 2; omega
    have hNb : N ≤ bn := by omega
    have hcut : ∀ W, (Instr.slice 36 (.slice b bn bc) none (some (.int .i64 (N : Int))) none).run Try.prog W = .ok (.slice b N bc) W := fun W => cutU W b bn bc N (by have := hB.room; omega)
    have htk : (B.take N).length = N := by rw [List.length_take]; omega
    have HH : Hid (RefAt w r T Kk a c xs ∧ RIn T xs ∧ xs.length ≤ 1000000000 ∧ fileA xs nm = .agg #[.string ⟨nm.toArray⟩, .bool th, .slice xa xn xc, .int .i64 (y : Int)] ∧ Rw byU 1 w xa xn xc l0 ∧ y ≤ xn ∧ xn ≤ sumR xs ∧ (∀ W, Chg (fun g => g = r) w W → Rw byU 1 W b N bc (B.take N)) ∧ N ≤ T.limit - sumR xs ∧ N ≤ bn ∧ readyP T nm = 0 ∧ takeN T B.length = N ∧ B.length = bn ∧ (B.take N).length = N ∧ (∀ q, xa = some q → q.block ≠ r) ∧ bn ≤ 140737488351232) := ⟨h, hI, hle, hfa, hl0, hy, hxn, fun W hC => rw_take (hBB W hC) hNb, by omega, hNb, hr, hN, hBl, htk, hxr, hbn⟩
    have HPM : Hid (∀ (f : Rf) (B : List UInt8), f.nm = nm → f.bs = l0 ++ B → f.syn = y → ((storeL f false xs).map Rf.fl).Perm (growP nm B T.fs) ∧ StrF ((storeL f false xs).map Rf.fl)) := hperm
    obtain ⟨L, hL⟩ : ∃ L, T.limit - sumR xs = L := ⟨_, rfl⟩
    rw [hL] at HM g0
    have hrl := h.lt r (.inl rfl)
    have HRL : Hid (r < w.heap.size) := hrl
    clear hperm hl0 hfa hy hxn hBl huse hlim hfsu hN hNv hNb htk hL hI hle hl hr hB hBB hbn hrl hxr
    go_enter Try.func60, Try.ntmps60
    go_wp2_with fail
    refine HL.out.mono ?_
    rintro e w1 ⟨rfl, hb1⟩
    obtain ⟨V6, hV6⟩ : ∃ V6, w1.alloc (.cells #[.string ⟨nm.toArray⟩, .bool th, .slice xa xn xc, .int .i64 (y : Int)] 126) = V6 := ⟨_, rfl⟩
    have hb6 : Below w.heap.size w V6 := by rw [← hV6]; exact hb1.alloc hb1.size _
    have HB : Hid (Below w.heap.size w V6) := hb6
    have hR6 := h.below hb6
    have c0 := (box5 hR6.box).1
    clear hb1 hb6 h hR6
    go_wp2_with fail
    refine (HU.out _ HB.out).mono ?_
    rintro e wz ⟨rfl, hz⟩
    rw [hz]
    clear hz wz
    go_wp2_with fail
    refine (HFI.out _ HB.out).mono ?_
    rintro e w2 ⟨rfl, h2, hC2⟩
    have H2 : Hid (RefAt w2 r (stepS T) Kk a c xs ∧ Chg (fun g => g = r) V6 w2 ∧ Chg (fun g => g = r) w w2) := ⟨h2, hC2, (Chg.of_below HB.out).trans hC2⟩
    clear h2 hC2
    go_wp2_with fail
    refine (rCopied (HH.out.2.2.2.2.2.2.2.1 w2 H2.out.2.2) (by have := HH.out.2.2.2.2.2.2.2.2.2.2.2.2.2.2.2; have := HH.out.2.2.2.2.2.2.2.2.2.1; omega)).mono ?_
    rintro e w3 ⟨a3, c3, rfl, ho3, hb3⟩
    have hC3 : Chg (fun g => g = r) w w3 := H2.out.2.2.trans (Chg.of_below hb3)
    have hxl : xn + N ≤ 1099511627776 := by
      have h1 := HH.out.2.2.2.2.2.2.1
      have h2 := HH.out.2.2.2.2.2.2.2.2.1
      have h3 := HH.out.2.1.use
      have h4 := HH.out.2.1.lim
      omega
    have HDD : Hid (Calls Try.prog 95 #[.pointer (some ⟨r, 0, none⟩), .agg #[.int .i64 1, .string ⟨nm.toArray⟩, .slice a3 N c3, .int .i64 0, .int .u8 0]] w3 fun e w' => e = .returned (.tuple #[]) ∧ DidP w3 w' r Kk a xs (stepS T) nm (l0 ++ B.take N) y) := rDid_put (H2.out.1.below hb3) HH.out.2.1.len nm th xa xn xc y HH.out.2.2.2.1 l0 (HH.out.2.2.2.2.1.chg hC3 HH.out.2.2.2.2.2.2.2.2.2.2.2.2.2.2.1) a3 N c3 (B.take N) (ho3.rw_ layU) hxl HH.out.2.2.2.2.2.1
    have H3 : Hid (Chg (fun g => g = r) w w3 ∧ xn + N ≤ 1099511627776) := ⟨hC3, hxl⟩
    clear ho3 hb3 hC3 hxl
    go_wp2_with fail
    refine HDD.out.mono ?_
    rintro e w4 ⟨rfl, f, f1, f2, f3, hnk⟩
    obtain ⟨hp1, hp2⟩ := HPM.out f (B.take N) f1 f2 f3
    have HT : Hid (Pm { appS T nm B with steps := T.steps - 1 } { stepS T with fs := (storeL f false xs).map Rf.fl } ∧ StrF ((storeL f false xs).map Rf.fl)) := ⟨⟨rfl, rfl, rfl, rfl, by show (growP nm (B.take (takeN T B.length)) T.fs).Perm _; rw [HH.out.2.2.2.2.2.2.2.2.2.2.2.1]; exact hp1.symm⟩, hp2⟩
    obtain ⟨a4, c4, xs4, h4, hC4, hrb4⟩ := hnk
    have hw4 : Chg (fun g => g = r) w w4 := H3.out.1.trans hC4
    have hrb : ∀ g, RB r a4 xs4 g → RB r a xs g ∨ w.heap.size ≤ g := fun g hg => by
      rcases hrb4 g hg with h | h
      · exact .inl h
      · exact .inr (by have := H3.out.1.size; omega)
    have hfs4 := h4.fs
    have hln4 : xs4.length ≤ 1073741823 := by
      have e := congrArg List.length hfs4
      simp only [List.length_map] at e
      have hsl := storeL_len (f := f) (xs := xs) (dn := false)
      have := HH.out.2.2.1
      simp only [Bool.false_eq_true, if_false] at hsl
      omega
    have hu4 : ∀ x ∈ xs4, x.bs.length ≤ 1099511627776 := fun x hx => by
      have hm : x.fl ∈ (storeL f false xs).map Rf.fl := by
        have : x.fl ∈ xs4.map Rf.fl := List.mem_map.2 ⟨x, hx, rfl⟩
        rw [← hfs4] at this
        exact this
      obtain ⟨y, hy, hyx⟩ := List.mem_map.1 hm
      have e : y.bs = x.bs := congrArg Fl.bs hyx
      rw [← e]
      rcases mem_storeL hy with hy | ⟨_, rfl⟩
      · exact HH.out.2.1.hu y hy
      · rw [f2, List.length_append, HH.out.2.2.2.2.2.2.2.2.2.2.2.2.2.1]
        have := HH.out.2.2.2.2.1.len
        have := H3.out.2
        omega
    by_cases hs : T.steps = 1
    · have hsd : decide (T.steps = 1) = true := decide_eq_true hs
      have hK := HH.out.1.kp (by omega)
      have d4 := (box5 h4.box).2.2.2.2
      rw [hK] at d4
      have HFA : Hid (Calls Try.prog 96 #[.pointer (some ⟨r, 0, none⟩), .int .i64 (T.keep : Int)] w4 fun e w' => e = .returned (.tuple #[]) ∧ RNx w4 w' r a4 xs4 (crashP T.keep { stepS T with fs := (storeL f false xs).map Rf.fl })) := rFalls h4 hln4 HT.out.2 hu4 T.keep
      have HP : Hid (appC T nm B = (crashP T.keep (appS T nm B), 0, 110)) := by unfold appC appP; rw [if_pos HH.out.2.2.2.2.2.2.2.2.2.2.1, if_pos hs]; rfl
      have HQ : Hid (∀ w', RNx w4 w' r a4 xs4 (crashP T.keep { stepS T with fs := (storeL f false xs).map Rf.fl }) → AppQ w w' r a xs (crashP T.keep (appS T nm B))) := fun w' hn => ⟨_, (HT.out.1.crash T.keep), strF_crash HT.out.2 _, RNx.trans hw4 hrb hn⟩
      clear hp1 hp2 f1 f2 f3 h4 hC4 hrb4 hw4 hrb hfs4 hln4 hu4 hs hK
      go_wp2_with fail
      refine HFA.out.mono ?_
      rintro e w5 ⟨rfl, hnx⟩
      have HY : Hid (AppQ w w5 r a xs (crashP T.keep (appS T nm B))) := HQ.out _ hnx
      clear hnx
      go_wp2_with fail
      go_ret2
      rw [HP.out]
      exact ⟨rfl, HY.out⟩
    · have hsd : decide (T.steps = 1) = false := decide_eq_false hs
      have HY : Hid (AppQ w w4 r a xs { appS T nm B with steps := T.steps - 1 }) := ⟨_, HT.out.1, HT.out.2, Kk, a4, c4, xs4, h4, hw4, hrb⟩
      have HP0 : Hid (appC T nm B = ({ appS T nm B with steps := T.steps - 1 }, (N : Int), if N < bn then 111 else 0)) := by
        unfold appC appP
        rw [if_pos HH.out.2.2.2.2.2.2.2.2.2.2.1, if_neg hs, HH.out.2.2.2.2.2.2.2.2.2.2.2.1, HH.out.2.2.2.2.2.2.2.2.2.2.2.2.1]; rfl
      clear hp1 hp2 f1 f2 f3 h4 hC4 hrb4 hw4 hrb hfs4 hln4 hu4 hs
      by_cases hlt : N < bn
      · have hlt2 : (N : Int) < (bn : Int) := by omega
        have HP := HP0.out
        rw [if_pos hlt] at HP
        have HP1 : Hid (appC T nm B = ({ appS T nm B with steps := T.steps - 1 }, (N : Int), 111)) := HP
        clear HP
        go_wp2_with fail
        go_ret2
        rw [HP1.out]
        exact ⟨rfl, HY.out⟩
      · have hlt2 : ¬ (N : Int) < (bn : Int) := by omega
        have HP := HP0.out
        rw [if_neg hlt] at HP
        have HP1 : Hid (appC T nm B = ({ appS T nm B with steps := T.steps - 1 }, (N : Int), 0)) := HP
        clear HP
        go_wp2_with fail
        go_ret2
        rw [HP1.out]
        exact ⟨rfl, HY.out⟩
  · have HP : Hid (appC T nm B = (T, 0, readyP T nm)) := by unfold appC; rw [if_neg hr]; rfl
    have HL : Hid (Calls Try.prog 93 #[.pointer (some ⟨r, 0, none⟩), .string ⟨nm.toArray⟩, .bool false] w fun e w' => e = .returned (.tuple #[.agg #[.string ⟨#[]⟩, .bool false, .slice none 0 0, .int .i64 0], .int .i64 (readyP T nm)]) ∧ Below w.heap.size w w') := rLook_err h nm hl false hr
    have hb : (readyP T nm != 0) = true := bne_iff_ne.2 hr
    have HH : Hid (RefAt w r T Kk a c xs ∧ StrF T.fs) := ⟨h, hI.str⟩
    clear h hI hl hr hBB hbn hle
    generalize readyP T nm = er at *
    generalize (⟨nm.toArray⟩ : ByteArray) = s at *
    go_enter Try.func60, Try.ntmps60
    go_wp2_with fail
    refine HL.out.mono ?_
    rintro e w1 ⟨rfl, hb1⟩
    have HB : Hid (Below w.heap.size w w1) := hb1
    clear hb1
    go_wp2_with fail
    go_ret2
    rw [HP.out]
    exact ⟨rfl, T, ⟨rfl, rfl, rfl, rfl, List.Perm.refl _⟩, HH.out.2, HH.out.1.nxt (HB.out.alloc HB.out.size _)⟩
end Go.Proofs.Ytfehgaioioejoaa
