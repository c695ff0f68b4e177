import Derived.Test.YtfakfmmngflbfabDoorDiff
namespace Go.Proofs.YtfakfmmngflbfabDoor
open Go.RowKit Go.Lib

theorem results_tmp4 {fn : Func} {t u v x : Tmp} (h : fn.results = #[.tmp t, .tmp u, .tmp v, .tmp x]) (tmps : Array Value) (P : Program) (w : World) :
    (results fn tmps).run P w = .ok (.tuple #[tmps.getD t undef, tmps.getD u undef, tmps.getD v undef, tmps.getD x undef]) w := by
  simp [results, h]
theorem runesB_from (ns : List Int) : ∀ s : ByteArray, (ns.foldl (fun r n => r ++ Utf8.encode n) s).data.toList = s.data.toList ++ encs ns := by
  induction ns with
  | nil => intro s; simp [encs]
  | cons n ns ih =>
    intro s
    rw [List.foldl_cons, ih, encs_cons, ByteArray.data_append, Array.toList_append, List.append_assoc]
    rfl
theorem runesB_encs (ns : List Int) : runesBytes ns = ⟨(encs ns).toArray⟩ := by
  have h := runesB_from ns ByteArray.empty
  have h2 : (runesBytes ns).data.toList = encs ns := by rw [runesBytes, h]; rfl
  rw [← h2]
theorem headF_le (xs ys : List Int) : ∀ f k, k ≤ xs.length → k ≤ ys.length → k ≤ headF xs ys f k ∧ headF xs ys f k ≤ xs.length ∧ headF xs ys f k ≤ ys.length
  | 0, k, h1, h2 => ⟨Nat.le_refl _, h1, h2⟩
  | f + 1, k, h1, h2 => by
    rw [headF]
    split
    · rename_i h
      have := headF_le xs ys f (k + 1) (by omega) (by omega)
      omega
    · exact ⟨Nat.le_refl _, h1, h2⟩
theorem headOf_le (xs ys : List Int) : headOf xs ys ≤ xs.length ∧ headOf xs ys ≤ ys.length :=
  ⟨(headF_le xs ys _ 0 (Nat.zero_le _) (Nat.zero_le _)).2.1, (headF_le xs ys _ 0 (Nat.zero_le _) (Nat.zero_le _)).2.2⟩
theorem tailF_le (xs ys : List Int) (a : Nat) : ∀ f t, a + t ≤ xs.length → a + t ≤ ys.length → a + tailF xs ys a f t ≤ xs.length ∧ a + tailF xs ys a f t ≤ ys.length
  | 0, t, h1, h2 => ⟨h1, h2⟩
  | f + 1, t, h1, h2 => by
    rw [tailF]
    split
    · rename_i h
      exact tailF_le xs ys a f (t + 1) (by omega) (by omega)
    · exact ⟨h1, h2⟩
theorem tailOf_le (xs ys : List Int) : headOf xs ys + tailOf xs ys ≤ xs.length ∧ headOf xs ys + tailOf xs ys ≤ ys.length :=
  tailF_le xs ys _ _ 0 (by have := (headOf_le xs ys).1; omega) (by have := (headOf_le xs ys).2; omega)
theorem Row32.drewN' {w : World} {a : Option Addr} {n cap : Nat} {rs : List Int} (h : Row32 w a n cap rs) (m : Nat) : Row32 (w.drewN m) a n cap rs := ⟨h.len, h.room, h.cells⟩
theorem Row32.from {w : World} {n cap g : Nat} {rs : List Int} (h : Row32 w (some ⟨g, 0, none⟩) n cap rs) (k : Nat) (hk : k ≤ n) : Row32 w (some ⟨g, k, none⟩) (n - k) (cap - k) (rs.drop k) := by
  have hl := h.len
  have hc := h.room
  refine ⟨by simp; omega, ⟨by omega, by omega⟩, fun j hj => ?_⟩
  obtain ⟨g', off', e, hg, hcell⟩ := h.cells (k + j) (by omega)
  simp only [Option.some.injEq, Addr.mk.injEq, and_true] at e
  obtain ⟨rfl, rfl⟩ := e
  refine ⟨g, k, rfl, hg, ?_⟩
  rw [Nat.zero_add] at hcell
  rw [hcell, getD_drop]
theorem row32_end {w : World} {n cap g : Nat} {rs : List Int} (h : Row32 w (some ⟨g, 0, none⟩) n cap rs) (k : Nat) (hk : n = k) (hc : cap - k = 0) : Row32 w (some ⟨g, 0, none⟩) (n - k) 0 (rs.drop k) := by
  have hl := h.len
  have _r := hc
  refine ⟨by simp; omega, ⟨by omega, Nat.zero_le _⟩, fun j hj => by omega⟩
/-- 'string(b[:n])' of such a row. -/
theorem conv_row {W : World} {g off n cap k : Nat} {zs : List Int} (h : Row32 W (some ⟨g, off, none⟩) n cap zs) (hk : k ≤ n) : (convert 22 9 (.slice (some ⟨g, off, none⟩) k cap)).run Tryd.prog W = .ok (.string ⟨(encs (zs.take k)).toArray⟩) W := by
  have hl := h.len
  have := run_convert_runes (P := Tryd.prog) W 22 9 21 ⟨g, off, none⟩ k cap zs (by omega) Tryd.underlying22 Tryd.underlying21 Tryd.underlying9 (fun j hj => by
    obtain ⟨g', off', e, _, hc⟩ := h.cells j (by omega)
    simp only [Option.some.injEq, Addr.mk.injEq, and_true] at e
    obtain ⟨rfl, rfl⟩ := e
    rw [show (⟨g, off, none⟩ : Addr).add j = ⟨g, off + j, none⟩ by unfold Addr.add; split <;> simp_all]
    exact hc)
  rw [this, runesB_encs]
theorem ins_list (ys : List Int) (a t : Nat) : (ys.drop a).take (ys.length - a - t) = (ys.take (ys.length - t)).drop a := by
  rw [List.drop_take]
  congr 1
  omega

set_option maxHeartbeats 2000000 in
theorem diff_in {s t : ByteArray} {xs ys : List Int} (h : IsText s xs) (h2 : IsText t ys) (hs : s.size ≤ 9223372036854775806) (ht : t.size ≤ 9223372036854775806) (hl : xs.length ≤ 70368744177664) (hl2 : ys.length ≤ 70368744177664) (w : World) (hw : Bar w) :
    Calls Tryd.prog 19 #[.string s, .string t] w fun e w' => e = .returned (.tuple #[.int .i64 (headOf xs ys), .int .i64 ((xs.length : Int) - headOf xs ys - tailOf xs ys), .string ⟨(encs ((ys.take (ys.length - tailOf xs ys)).drop (headOf xs ys))).toArray⟩, .int .i64 0]) ∧ Below w.heap.size w w' := by
  have hcv := conv_runes h hl
  have hcv2 := conv_runes h2 hl2
  go_enter Tryd.func19, Tryd.ntmps19
  go_wp2_with fail
  refine (check_bar (by omega) h.check _ hw).mono ?_
  rintro e w1 ⟨rfl, hb1⟩
  have hw1 := hw.below hb1
  go_wp2_with fail
  refine (check_bar (by omega) h2.check _ hw1).mono ?_
  rintro e w2 ⟨rfl, hb2⟩
  have hB2 := hb1.trans (hb2.mono hb1.size)
  clear hb1 hb2 hw hw1
  go_wp2_with fail
  have hx : Row32 ((w2.alloc (.cells ((runeV xs).toArray ++ Array.replicate (grownCap w2 xs.length 0 21 - xs.length) (.int .i32 0)) 21)).alloc (.cells ((runeV ys).toArray ++ Array.replicate (grownCap (w2.alloc (.cells ((runeV xs).toArray ++ Array.replicate (grownCap w2 xs.length 0 21 - xs.length) (.int .i32 0)) 21)).drew ys.length 0 21 - ys.length) (.int .i32 0)) 21)).drew.drew (some ⟨w2.heap.size, 0, none⟩) xs.length (grownCap w2 xs.length 0 21) xs := by
    have h3 := row_runes xs w2 (grownCap_le_maxLen _ _ _ _ (by unfold maxLen; omega))
    exact h3.below (((Below.refl _ _).alloc (Nat.le_refl _) _).trans ⟨rfl, rfl, rfl, Nat.le_refl _, fun _ _ => rfl⟩)
  have hy : Row32 ((w2.alloc (.cells ((runeV xs).toArray ++ Array.replicate (grownCap w2 xs.length 0 21 - xs.length) (.int .i32 0)) 21)).alloc (.cells ((runeV ys).toArray ++ Array.replicate (grownCap (w2.alloc (.cells ((runeV xs).toArray ++ Array.replicate (grownCap w2 xs.length 0 21 - xs.length) (.int .i32 0)) 21)).drew ys.length 0 21 - ys.length) (.int .i32 0)) 21)).drew.drew (some ⟨w2.heap.size + 1, 0, none⟩) ys.length (grownCap (w2.alloc (.cells ((runeV xs).toArray ++ Array.replicate (grownCap w2 xs.length 0 21 - xs.length) (.int .i32 0)) 21)).drew ys.length 0 21) ys := by
    have h3 := row_runes ys (w2.alloc (.cells ((runeV xs).toArray ++ Array.replicate (grownCap w2 xs.length 0 21 - xs.length) (.int .i32 0)) 21)).drew (grownCap_le_maxLen _ _ _ _ (by unfold maxLen; omega))
    have e : ((w2.alloc (.cells ((runeV xs).toArray ++ Array.replicate (grownCap w2 xs.length 0 21 - xs.length) (.int .i32 0)) 21)).drew).heap.size = w2.heap.size + 1 := by simp
    rw [e] at h3
    exact ⟨h3.len, h3.room, h3.cells⟩
  have hs2 := hB2.size
  have hB3 : Below w.heap.size w ((w2.alloc (.cells ((runeV xs).toArray ++ Array.replicate (grownCap w2 xs.length 0 21 - xs.length) (.int .i32 0)) 21)).alloc (.cells ((runeV ys).toArray ++ Array.replicate (grownCap (w2.alloc (.cells ((runeV xs).toArray ++ Array.replicate (grownCap w2 xs.length 0 21 - xs.length) (.int .i32 0)) 21)).drew ys.length 0 21 - ys.length) (.int .i32 0)) 21)).drew.drew :=
    ((hB2.alloc hs2 _).alloc (by simp; omega) _).trans ⟨rfl, rfl, rfl, Nat.le_refl _, fun _ _ => rfl⟩
  generalize grownCap _ ys.length 0 21 = cap2 at *
  generalize grownCap w2 xs.length 0 21 = cap1 at *
  generalize World.drew (World.drew _) = w3 at *
  clear hB2 hs2 hcv hcv2
  generalize w2.heap.size + 1 = g2 at *
  generalize w2.heap.size = g1 at *
  have hr1 := hx.room
  have hr2 := hy.room
  refine (head_any _ _ _ xs _ _ _ ys _ hx hy (by omega) (by omega)).mono ?_
  rintro e w4 ⟨rfl, q, rfl⟩
  have hh := headOf_le xs ys
  have ht2 := tailOf_le xs ys
  have HT : Hid (tailG (xs.drop (headOf xs ys)) (ys.drop (headOf xs ys)) (xs.length - headOf xs ys) 0 = tailOf xs ys) := tailG_drop xs ys _ _ _
  have HI : Hid ((ys.drop (headOf xs ys)).take (ys.length - headOf xs ys - tailOf xs ys) = (ys.take (ys.length - tailOf xs ys)).drop (headOf xs ys)) := ins_list ys _ _
  by_cases k1 : cap1 - headOf xs ys = 0
  · by_cases k2 : cap2 - headOf xs ys = 0
    · have hxa := row32_end hx (headOf xs ys) (by omega) (by omega)
      have hyb := row32_end hy (headOf xs ys) (by omega) (by omega)
      have hcv : ∀ m : Nat, (convert 22 9 (.slice (some ⟨g2, 0, none⟩) (ys.length - headOf xs ys - tailOf xs ys) 0)).run Tryd.prog (w3.drewN m) = _ := fun m => conv_row (hyb.drewN' m) (by omega)
      rw [HI.out] at hcv
      obtain ⟨tx, htx⟩ : ∃ tx : ByteArray, (⟨(encs ((ys.take (ys.length - tailOf xs ys)).drop (headOf xs ys))).toArray⟩ : ByteArray) = tx := ⟨_, rfl⟩
      rw [htx] at hcv
      have HX : Hid ((⟨(encs ((ys.take (ys.length - tailOf xs ys)).drop (headOf xs ys))).toArray⟩ : ByteArray) = tx) := htx
      clear htx
      go_wp2_with fail
      have b1 : ((headOf xs ys : Nat) : Int) ≤ (xs.length : Int) := by omega
      have b2 : ((headOf xs ys : Nat) : Int) ≤ (ys.length : Int) := by omega
      go_quiet (fail)
      go_wp2_with fail
      refine (tail_any _ _ _ (xs.drop (headOf xs ys)) _ _ _ (ys.drop (headOf xs ys)) _ (hxa.drewN' _) (hyb.drewN' _) (by omega) (by omega)).mono ?_
      rintro e w5 ⟨rfl, q2, rfl⟩
      rw [HT.out]
      have u1 : IntKind.i64.wrap (((xs.length - headOf xs ys : Nat) : Int) - (tailOf xs ys : Int)) = (xs.length : Int) - headOf xs ys - tailOf xs ys := (IntWalk.i64_in _ (by omega)).trans (by omega)
      have u2 : IntKind.i64.wrap (((ys.length - headOf xs ys : Nat) : Int) - (tailOf xs ys : Int)) = ((ys.length - headOf xs ys - tailOf xs ys : Nat) : Int) := (IntWalk.i64_in _ (by omega)).trans (by omega)
      have u3 : ys.length - headOf xs ys - tailOf xs ys = 0 := by omega
      rw [u3] at hcv u2
      go_wp2_with fail
      go_quiet (fail)
      go_wp2_with fail
      (try simp only [Exit.inBlock, Exit.then])
      refine bodyPost_ret (results_tmp4 rfl _ _ _) rfl ?_
      rw [HX.out]
      exact ⟨rfl, hB3.trans ⟨rfl, rfl, rfl, Nat.le_refl _, fun _ _ => rfl⟩⟩
    · have hxa := row32_end hx (headOf xs ys) (by omega) (by omega)
      have hyb := hy.from (headOf xs ys) (by omega)
      have hcv : ∀ m : Nat, (convert 22 9 (.slice (some ⟨g2, headOf xs ys, none⟩) (ys.length - headOf xs ys - tailOf xs ys) (cap2 - headOf xs ys))).run Tryd.prog (w3.drewN m) = _ := fun m => conv_row (hyb.drewN' m) (by omega)
      rw [HI.out] at hcv
      obtain ⟨tx, htx⟩ : ∃ tx : ByteArray, (⟨(encs ((ys.take (ys.length - tailOf xs ys)).drop (headOf xs ys))).toArray⟩ : ByteArray) = tx := ⟨_, rfl⟩
      rw [htx] at hcv
      have HX : Hid ((⟨(encs ((ys.take (ys.length - tailOf xs ys)).drop (headOf xs ys))).toArray⟩ : ByteArray) = tx) := htx
      clear htx
      go_wp2_with fail
      have b1 : ((headOf xs ys : Nat) : Int) ≤ (xs.length : Int) := by omega
      have b2 : ((headOf xs ys : Nat) : Int) ≤ (ys.length : Int) := by omega
      go_quiet (fail)
      go_wp2_with fail
      refine (tail_any _ _ _ (xs.drop (headOf xs ys)) _ _ _ (ys.drop (headOf xs ys)) _ (hxa.drewN' _) (hyb.drewN' _) (by omega) (by omega)).mono ?_
      rintro e w5 ⟨rfl, q2, rfl⟩
      rw [HT.out]
      have u1 : IntKind.i64.wrap (((xs.length - headOf xs ys : Nat) : Int) - (tailOf xs ys : Int)) = (xs.length : Int) - headOf xs ys - tailOf xs ys := (IntWalk.i64_in _ (by omega)).trans (by omega)
      have u2 : IntKind.i64.wrap (((ys.length - headOf xs ys : Nat) : Int) - (tailOf xs ys : Int)) = ((ys.length - headOf xs ys - tailOf xs ys : Nat) : Int) := (IntWalk.i64_in _ (by omega)).trans (by omega)
      have u3 : ys.length - headOf xs ys - tailOf xs ys ≤ cap2 - headOf xs ys := by omega
      go_wp2_with fail
      go_quiet (fail)
      go_wp2_with fail
      (try simp only [Exit.inBlock, Exit.then])
      refine bodyPost_ret (results_tmp4 rfl _ _ _) rfl ?_
      rw [HX.out]
      exact ⟨rfl, hB3.trans ⟨rfl, rfl, rfl, Nat.le_refl _, fun _ _ => rfl⟩⟩
  · by_cases k2 : cap2 - headOf xs ys = 0
    · have hxa := hx.from (headOf xs ys) (by omega)
      have hyb := row32_end hy (headOf xs ys) (by omega) (by omega)
      have hcv : ∀ m : Nat, (convert 22 9 (.slice (some ⟨g2, 0, none⟩) (ys.length - headOf xs ys - tailOf xs ys) 0)).run Tryd.prog (w3.drewN m) = _ := fun m => conv_row (hyb.drewN' m) (by omega)
      rw [HI.out] at hcv
      obtain ⟨tx, htx⟩ : ∃ tx : ByteArray, (⟨(encs ((ys.take (ys.length - tailOf xs ys)).drop (headOf xs ys))).toArray⟩ : ByteArray) = tx := ⟨_, rfl⟩
      rw [htx] at hcv
      have HX : Hid ((⟨(encs ((ys.take (ys.length - tailOf xs ys)).drop (headOf xs ys))).toArray⟩ : ByteArray) = tx) := htx
      clear htx
      go_wp2_with fail
      have b1 : ((headOf xs ys : Nat) : Int) ≤ (xs.length : Int) := by omega
      have b2 : ((headOf xs ys : Nat) : Int) ≤ (ys.length : Int) := by omega
      go_quiet (fail)
      go_wp2_with fail
      refine (tail_any _ _ _ (xs.drop (headOf xs ys)) _ _ _ (ys.drop (headOf xs ys)) _ (hxa.drewN' _) (hyb.drewN' _) (by omega) (by omega)).mono ?_
      rintro e w5 ⟨rfl, q2, rfl⟩
      rw [HT.out]
      have u1 : IntKind.i64.wrap (((xs.length - headOf xs ys : Nat) : Int) - (tailOf xs ys : Int)) = (xs.length : Int) - headOf xs ys - tailOf xs ys := (IntWalk.i64_in _ (by omega)).trans (by omega)
      have u2 : IntKind.i64.wrap (((ys.length - headOf xs ys : Nat) : Int) - (tailOf xs ys : Int)) = ((ys.length - headOf xs ys - tailOf xs ys : Nat) : Int) := (IntWalk.i64_in _ (by omega)).trans (by omega)
      have u3 : ys.length - headOf xs ys - tailOf xs ys = 0 := by omega
      rw [u3] at hcv u2
      go_wp2_with fail
      go_quiet (fail)
      go_wp2_with fail
      (try simp only [Exit.inBlock, Exit.then])
      refine bodyPost_ret (results_tmp4 rfl _ _ _) rfl ?_
      rw [HX.out]
      exact ⟨rfl, hB3.trans ⟨rfl, rfl, rfl, Nat.le_refl _, fun _ _ => rfl⟩⟩
    · have hxa := hx.from (headOf xs ys) (by omega)
      have hyb := hy.from (headOf xs ys) (by omega)
      have hcv : ∀ m : Nat, (convert 22 9 (.slice (some ⟨g2, headOf xs ys, none⟩) (ys.length - headOf xs ys - tailOf xs ys) (cap2 - headOf xs ys))).run Tryd.prog (w3.drewN m) = _ := fun m => conv_row (hyb.drewN' m) (by omega)
      rw [HI.out] at hcv
      obtain ⟨tx, htx⟩ : ∃ tx : ByteArray, (⟨(encs ((ys.take (ys.length - tailOf xs ys)).drop (headOf xs ys))).toArray⟩ : ByteArray) = tx := ⟨_, rfl⟩
      rw [htx] at hcv
      have HX : Hid ((⟨(encs ((ys.take (ys.length - tailOf xs ys)).drop (headOf xs ys))).toArray⟩ : ByteArray) = tx) := htx
      clear htx
      go_wp2_with fail
      have b1 : ((headOf xs ys : Nat) : Int) ≤ (xs.length : Int) := by omega
      have b2 : ((headOf xs ys : Nat) : Int) ≤ (ys.length : Int) := by omega
      go_quiet (fail)
      go_wp2_with fail
      refine (tail_any _ _ _ (xs.drop (headOf xs ys)) _ _ _ (ys.drop (headOf xs ys)) _ (hxa.drewN' _) (hyb.drewN' _) (by omega) (by omega)).mono ?_
      rintro e w5 ⟨rfl, q2, rfl⟩
      rw [HT.out]
      have u1 : IntKind.i64.wrap (((xs.length - headOf xs ys : Nat) : Int) - (tailOf xs ys : Int)) = (xs.length : Int) - headOf xs ys - tailOf xs ys := (IntWalk.i64_in _ (by omega)).trans (by omega)
      have u2 : IntKind.i64.wrap (((ys.length - headOf xs ys : Nat) : Int) - (tailOf xs ys : Int)) = ((ys.length - headOf xs ys - tailOf xs ys : Nat) : Int) := (IntWalk.i64_in _ (by omega)).trans (by omega)
      have u3 : ys.length - headOf xs ys - tailOf xs ys ≤ cap2 - headOf xs ys := by omega
      go_wp2_with fail
      go_quiet (fail)
      go_wp2_with fail
      (try simp only [Exit.inBlock, Exit.then])
      refine bodyPost_ret (results_tmp4 rfl _ _ _) rfl ?_
      rw [HX.out]
      exact ⟨rfl, hB3.trans ⟨rfl, rfl, rfl, Nat.le_refl _, fun _ _ => rfl⟩⟩
end Go.Proofs.YtfakfmmngflbfabDoor
