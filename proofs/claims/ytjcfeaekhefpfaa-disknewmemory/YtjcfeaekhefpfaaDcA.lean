import Derived.Test.YtjcfeaekhefpfaaDbA
/-! The other calls, in all cases: find, Sync, Cut, Remove, Read, Size, Turn. -/
namespace Go.Proofs.Ytjcfeaekhefpfaa
open Go.RowKit Go.Lib
set_option maxRecDepth 100000

def hasF (fs : List Fl) (nm : List UInt8) : Bool := fs.any (fun f => decide (f.nm = nm))
def findE (S : Dk) (nm : List UInt8) : Int := if readyP S nm = 0 then (if hasF S.fs nm = true then 0 else 112) else readyP S nm
theorem readyP_cases (S : Dk) (nm : List UInt8) : readyP S nm = 0 ∨ readyP S nm = 110 ∨ readyP S nm = 113 := by
  unfold readyP
  split
  · exact .inr (.inl rfl)
  · split
    · exact .inl rfl
    · exact .inr (.inr rfl)
theorem hasF_no {xs : List X} {nm : List UInt8} (h : ∀ x ∈ xs, x.nm ≠ nm) : hasF (xs.map X.fl) nm = false := by
  unfold hasF
  rw [List.any_map, List.any_eq_false]
  intro y hy
  simp [X.fl, h y hy]
theorem hasF_yes {l r : List X} {x : X} : hasF ((l ++ x :: r).map X.fl) x.nm = true := by
  unfold hasF
  rw [List.any_map, List.any_eq_true]
  exact ⟨x, by simp, by simp [X.fl]⟩
set_option maxHeartbeats 1000000 in
/-- find refuses -/
theorem find_bad {w : World} {p b ck : Nat} {S : Dk} {xs : List X} (h : DiskAt w p b S xs ck) (nm : List UInt8) (hl : nm.length ≤ 9223372036854775807) (he : findE S nm ≠ 0) :
    Calls Try.prog 26 #[.pointer (some ⟨p, 0, none⟩), .string ⟨nm.toArray⟩] w fun e w' => e = .returned (.tuple #[.pointer none, .int .i64 (findE S nm)]) ∧ w' = w := by
  obtain ⟨c0, c1, c2, c3, c4⟩ := box5 h.box
  have HR : Hid (Calls Try.prog 22 #[.pointer (some ⟨p, 0, none⟩), .string ⟨nm.toArray⟩] w fun e w' => e = .returned (.int .i64 (readyP S nm)) ∧ w' = w) := ready_any h nm hl
  by_cases h0 : readyP S nm = 0
  · have hno : hasF S.fs nm = false := by
      cases hq : hasF S.fs nm with
      | false => rfl
      | true => exact absurd (by unfold findE; rw [if_pos h0, if_pos hq]) he
    have hfe : findE S nm = 112 := by unfold findE; rw [if_pos h0, hno]; rfl
    have hn : ∀ x ∈ xs, x.nm ≠ nm := fun x hx e => by
      rw [h.fs] at hno
      obtain ⟨l, r, rfl⟩ := List.append_of_mem hx
      have := hasF_yes (l := l) (r := r) (x := x)
      rw [e, hno] at this
      cases this
    have HL := look_miss h.map hn
    rw [hfe]
    rw [h0] at HR
    clear h hl he h0 hno hfe hn
    generalize (⟨nm.toArray⟩ : ByteArray) = s at *
    go_enter Try.func26, Try.ntmps26
    go_wp2_with fail
    refine HR.out.mono ?_
    rintro e w1 ⟨rfl, rfl⟩
    go_wp2_with fail
    go_ret2
    exact ⟨rfl, rfl⟩
  · have hfe : findE S nm = readyP S nm := by unfold findE; rw [if_neg h0]
    rw [hfe]
    have hb : (readyP S nm != 0) = true := bne_iff_ne.2 h0
    clear h hl he hfe h0 c0 c1 c2 c3 c4
    generalize readyP S nm = er at *
    generalize (⟨nm.toArray⟩ : ByteArray) = s at *
    go_enter Try.func26, Try.ntmps26
    go_wp2_with fail
    refine HR.out.mono ?_
    rintro e w1 ⟨rfl, rfl⟩
    go_wp2_with fail
    go_ret2
    exact ⟨rfl, rfl⟩
/-- find finds -/
theorem find_good {w : World} {p b ck : Nat} {S : Dk} {xs : List X} (h : DiskAt w p b S xs ck) (nm : List UInt8) (hl : nm.length ≤ 9223372036854775807) (he : findE S nm = 0) :
    ∃ l x r, xs = l ++ x :: r ∧ x.nm = nm ∧ (∀ y ∈ l, y.nm ≠ nm) ∧ (∀ y ∈ r, y.nm ≠ nm) ∧ readyP S nm = 0 ∧ Calls Try.prog 26 #[.pointer (some ⟨p, 0, none⟩), .string ⟨nm.toArray⟩] w fun e w' => e = .returned (.tuple #[.pointer (some ⟨x.q, 0, none⟩), .int .i64 0]) ∧ w' = w := by
  have h0 : readyP S nm = 0 := by
    by_cases h0 : readyP S nm = 0
    · exact h0
    · unfold findE at he
      rw [if_neg h0] at he
      exact he
  rcases name_cases nm xs h.map.nm with hn | ⟨l, x, r, rfl, hx, hl1, hr1⟩
  · exfalso
    unfold findE at he
    rw [if_pos h0, h.fs, hasF_no hn] at he
    exact absurd he (by decide)
  · exact ⟨l, x, r, rfl, hx, hl1, hr1, h0, find_hit h hl h0 hx hl1⟩
def updF (nm : List UInt8) (g : Fl → Fl) (f : Fl) : Fl := if f.nm = nm then g f else f
theorem updF_mid {nm : List UInt8} {g : Fl → Fl} {l r : List X} {x x' : X} (hx : x.nm = nm) (hl : ∀ y ∈ l, y.nm ≠ nm) (hr : ∀ y ∈ r, y.nm ≠ nm) (hg : x'.fl = g x.fl) : ((l ++ x :: r).map X.fl).map (updF nm g) = l.map X.fl ++ x'.fl :: r.map X.fl := by
  have hk : ∀ m : List X, (∀ y ∈ m, y.nm ≠ nm) → (m.map X.fl).map (updF nm g) = m.map X.fl := fun m hm => by
    rw [List.map_map]
    refine List.map_congr_left fun y hy => ?_
    show updF nm g y.fl = y.fl
    unfold updF
    exact if_neg (hm y hy)
  rw [List.map_append, List.map_append, List.map_cons, List.map_cons, hk l hl, hk r hr, hg]
  congr 2
  unfold updF
  exact if_pos (show x.fl.nm = nm from hx)
def stepS (S : Dk) : Dk := { S with steps := S.steps - 1 }
theorem blk_mid {p b : Nat} {l r : List X} {x x' : X} (hq : x'.q = x.q) (hv : x'.v.ownBlock = x.v.ownBlock) {g : Nat} (hg : Blk p b (l ++ x' :: r) g) : Blk p b (l ++ x :: r) g := by
  rcases hg with h | h | ⟨y, hy, h⟩
  · exact .inl h
  · exact .inr (.inl h)
  · rcases List.mem_append.1 hy with hy | hy
    · exact .inr (.inr ⟨y, by simp [hy], h⟩)
    · rcases List.mem_cons.1 hy with rfl | hy
      · rw [hq, hv] at h
        exact .inr (.inr ⟨x, by simp, h⟩)
      · exact .inr (.inr ⟨y, by simp [hy], h⟩)
/-! ## Sync -/
def Fl.sync (f : Fl) : Fl := ⟨f.nm, f.bs, f.bs.length⟩
def syncP (S : Dk) (nm : List UInt8) : Dk × Int := if findE S nm = 0 then (if S.steps = 1 then (crashP S.keep S, 110) else ({ stepS S with fs := S.fs.map (updF nm Fl.sync) }, 0)) else (S, findE S nm)
set_option maxHeartbeats 2000000 in
theorem sync_all {w : World} {p b ck : Nat} {S : Dk} {xs : List X} (h : DiskAt w p b S xs ck) (hO : S.Ok) (nm : List UInt8) (hl : nm.length ≤ 9223372036854775807) :
    Calls Try.prog 32 #[.pointer (some ⟨p, 0, none⟩), .string ⟨nm.toArray⟩] w fun e w' => e = .returned (.int .i64 (syncP S nm).2) ∧ Nxt w w' p b xs (syncP S nm).1 := by
  by_cases he : findE S nm = 0
  · obtain ⟨l, x, r, rfl, hx, hl1, hr1, h0, HF⟩ := find_good h nm hl he
    have hxm : x ∈ l ++ x :: r := by simp
    have HF : Hid (Calls Try.prog 26 #[.pointer (some ⟨p, 0, none⟩), .string ⟨nm.toArray⟩] w fun e w' => e = .returned (.tuple #[.pointer (some ⟨x.q, 0, none⟩), .int .i64 0]) ∧ w' = w) := HF
    by_cases h1 : S.steps = 1
    · have HP : Hid (syncP S nm = (crashP S.keep S, 110)) := by unfold syncP; rw [if_pos he, if_pos h1]; rfl
      have HU : Hid (Calls Try.prog 24 #[.pointer (some ⟨p, 0, none⟩)] w fun e w' => e = .returned (.bool true) ∧ DiskAt w' p b (stepS S) (l ++ x :: r) ck ∧ Chg (fun g => g = p) w w' ∧ w'.heap.size = w.heap.size) := by
        have := due_any h hO.st
        rw [decide_eq_true h1] at this
        exact this
      have HL : Hid (lenX (l ++ x :: r) ≤ 1099511627776 ∧ S.keep ≤ 9223372036854775807) := ⟨hO.len h, hO.kp⟩
      clear h hO hl he hx hl1 hr1 h0 h1
      generalize (⟨nm.toArray⟩ : ByteArray) = s at *
      go_enter Try.func32, Try.ntmps32
      go_wp2_with fail
      refine HF.out.mono ?_
      rintro e w1 ⟨rfl, rfl⟩
      go_wp2_with fail
      refine HU.out.mono ?_
      rintro e w2 ⟨rfl, h2, hC2, hs2⟩
      have HX : Hid (DiskAt w2 p b (stepS S) (l ++ x :: r) ck ∧ Chg (fun g => g = p) w1 w2) := ⟨h2, hC2⟩
      clear h2 hC2 hs2
      go_wp2_with fail
      refine (giveUp_any HX.out.1 HL.out.1 HL.out.2).mono ?_
      rintro e w3 ⟨rfl, h3, hC3⟩
      have HY : Hid (Nxt w1 w3 p b (l ++ x :: r) (crashP S.keep S)) := ⟨_, _, h3, (HX.out.2.mono (fun _ _ e => .inl e)).trans hC3, fun g hg => .inl (leftX_blk hg)⟩
      clear h3 hC3
      go_wp2_with fail
      go_ret
      rw [HP.out]
      exact ⟨rfl, HY.out⟩
    · have HP : Hid (syncP S nm = ({ stepS S with fs := S.fs.map (updF nm Fl.sync) }, 0)) := by unfold syncP; rw [if_pos he, if_neg h1]; rfl
      have HU : Hid (Calls Try.prog 24 #[.pointer (some ⟨p, 0, none⟩)] w fun e w' => e = .returned (.bool false) ∧ DiskAt w' p b (stepS S) (l ++ x :: r) ck ∧ Chg (fun g => g = p) w w' ∧ w'.heap.size = w.heap.size) := by
        have := due_any h hO.st
        rw [decide_eq_false h1] at this
        exact this
      have HE : Hid (S.fs.map (updF nm Fl.sync) = l.map X.fl ++ x.sync.fl :: r.map X.fl) := by rw [h.fs]; exact updF_mid hx hl1 hr1 rfl
      have HV : x.sync.v.ownBlock = x.v.ownBlock := rfl
      clear h hO hl he hx hl1 hr1 h0 h1
      generalize (⟨nm.toArray⟩ : ByteArray) = s at *
      go_enter Try.func32, Try.ntmps32
      go_wp2_with fail
      refine HF.out.mono ?_
      rintro e w1 ⟨rfl, rfl⟩
      go_wp2_with fail
      refine HU.out.mono ?_
      rintro e w2 ⟨rfl, h2, hC2, hs2⟩
      have HX : Hid (DiskAt w2 p b (stepS S) (l ++ x :: r) ck ∧ Chg (fun g => g = p) w1 w2) := ⟨h2, hC2⟩
      clear h2 hC2 hs2
      go_wp2_with fail
      refine (sync_any (HX.out.1.file x hxm)).mono ?_
      rintro e w3 ⟨rfl, h3, hC3, hs3⟩
      have HY : Hid (Nxt w1 w3 p b (l ++ x :: r) ({ stepS S with fs := S.fs.map (updF nm Fl.sync) })) := by
        refine ⟨l ++ x.sync :: r, ck, ?_, (HX.out.2.mono (fun _ _ e => .inl e)).trans (hC3.mono (fun _ _ e => .inr (.inr ⟨x, hxm, .inl e⟩))), fun g hg => .inl (blk_mid (x := x) (x' := x.sync) rfl HV hg)⟩
        rw [HE.out]
        exact HX.out.1.upd (hC3.mono (fun _ _ e => .inl e)) h3 rfl rfl rfl (fun g hg => .inl (by rw [← HV]; exact hg))
      clear h3 hC3 hs3
      go_wp2_with fail
      go_ret
      rw [HP.out]
      exact ⟨rfl, HY.out⟩
  · have HP : Hid (syncP S nm = (S, findE S nm)) := by unfold syncP; rw [if_neg he]; rfl
    have HF : Hid (Calls Try.prog 26 #[.pointer (some ⟨p, 0, none⟩), .string ⟨nm.toArray⟩] w fun e w' => e = .returned (.tuple #[.pointer none, .int .i64 (findE S nm)]) ∧ w' = w) := find_bad h nm hl he
    have hb : (findE S nm != 0) = true := bne_iff_ne.2 he
    have HD : Hid (DiskAt w p b S xs ck) := h
    rw [HP.out]
    clear h hO hl he HP
    generalize findE S nm = er at *
    generalize (⟨nm.toArray⟩ : ByteArray) = s at *
    go_enter Try.func32, Try.ntmps32
    go_wp2_with fail
    refine HF.out.mono ?_
    rintro e w1 ⟨rfl, rfl⟩
    go_wp2_with fail
    go_ret
    exact ⟨rfl, _, _, HD.out, Chg.refl _ _, fun g hg => .inl hg⟩
/-! ## Cut -/
def Fl.cut (n : Nat) (f : Fl) : Fl := ⟨f.nm, f.bs.take n, min f.syn n⟩
def lenF (fs : List Fl) (nm : List UInt8) : Nat := match fs.find? (fun f => decide (f.nm = nm)) with | some f => f.bs.length | none => 0
theorem lenF_mid {l r : List X} {x : X} {nm : List UInt8} (hx : x.nm = nm) (hl : ∀ y ∈ l, y.nm ≠ nm) : lenF ((l ++ x :: r).map X.fl) nm = x.bs.length := by
  have h1 : (l.map X.fl).find? (fun f => decide (f.nm = nm)) = none := by
    rw [List.find?_eq_none]
    intro f hf
    obtain ⟨y, hy, rfl⟩ := List.mem_map.1 hf
    simp [X.fl, hl y hy]
  unfold lenF
  rw [List.map_append, List.find?_append, h1, List.map_cons, List.find?_cons_of_pos (by simp [X.fl, hx])]
  rfl
def cutP (S : Dk) (nm : List UInt8) (n : Int) : Dk × Int := if findE S nm = 0 then (if n < 0 ∨ (lenF S.fs nm : Int) < n then (S, 12) else if S.steps = 1 then (crashP S.keep S, 110) else ({ stepS S with fs := S.fs.map (updF nm (Fl.cut n.toNat)) }, 0)) else (S, findE S nm)
set_option maxHeartbeats 2000000 in
theorem cut_all {w : World} {p b ck : Nat} {S : Dk} {xs : List X} (h : DiskAt w p b S xs ck) (hO : S.Ok) (nm : List UInt8) (hl : nm.length ≤ 9223372036854775807) (n : Int) :
    Calls Try.prog 34 #[.pointer (some ⟨p, 0, none⟩), .string ⟨nm.toArray⟩, .int .i64 n] w fun e w' => e = .returned (.int .i64 (cutP S nm n).2) ∧ Nxt w w' p b xs (cutP S nm n).1 := by
  by_cases he : findE S nm = 0
  · obtain ⟨l, x, r, rfl, hx, hl1, hr1, h0, HF⟩ := find_good h nm hl he
    have hxm : x ∈ l ++ x :: r := by simp
    have HF : Hid (Calls Try.prog 26 #[.pointer (some ⟨p, 0, none⟩), .string ⟨nm.toArray⟩] w fun e w' => e = .returned (.tuple #[.pointer (some ⟨x.q, 0, none⟩), .int .i64 0]) ∧ w' = w) := HF
    have hlen := lenF_mid (r := r) hx hl1
    rw [← h.fs] at hlen
    obtain ⟨va, vc, hv, _, _, _⟩ := own_shape (h.file x hxm).own
    have HVS : Hid (x.v = .slice va x.bs.length vc) := hv
    have HDF : Hid (FileAt w x) := h.file x hxm
    clear hv
    by_cases hn : n < 0 ∨ (lenF S.fs nm : Int) < n
    · have HP : Hid (cutP S nm n = (S, 12)) := by unfold cutP; rw [if_pos he, if_pos hn]; rfl
      have HD : Hid (DiskAt w p b S (l ++ x :: r) ck) := h
      rw [hlen] at hn
      clear h hO hl he hx hl1 hr1 h0 hlen
      generalize (⟨nm.toArray⟩ : ByteArray) = s at *
      go_enter Try.func34, Try.ntmps34
      go_wp2_with fail
      refine HF.out.mono ?_
      rintro e w1 ⟨rfl, rfl⟩
      obtain ⟨d0, d1⟩ := box2 HDF.out.box
      rw [HVS.out] at d0
      clear d1
      by_cases h9 : n < 0
      · clear hn d0
        go_wp2_with fail
        go_ret
        rw [HP.out]
        exact ⟨rfl, _, _, HD.out, Chg.refl _ _, fun g hg => .inl hg⟩
      · have h8 : (x.bs.length : Int) < n := by omega
        clear hn
        go_wp2_with fail
        go_ret
        rw [HP.out]
        exact ⟨rfl, _, _, HD.out, Chg.refl _ _, fun g hg => .inl hg⟩
    rw [hlen] at hn
    have hn1 : ¬ n < 0 := fun e => hn (.inl e)
    have hn2 : ¬ (x.bs.length : Int) < n := fun e => hn (.inr e)
    have hn3 : ¬ (n < 0 ∨ (lenF S.fs nm : Int) < n) := by rw [hlen]; exact hn
    clear hn
    obtain ⟨m, rfl⟩ : ∃ m : Nat, n = (m : Int) := ⟨n.toNat, by omega⟩
    have hm : m ≤ x.bs.length := by omega
    have HNN : Hid (m ≤ x.bs.length) := hm
    clear hm
    by_cases h1 : S.steps = 1
    · have HP : Hid (cutP S nm m = (crashP S.keep S, 110)) := by unfold cutP; rw [if_pos he, if_neg hn3, if_pos h1]; rfl
      have HU : Hid (Calls Try.prog 24 #[.pointer (some ⟨p, 0, none⟩)] w fun e w' => e = .returned (.bool true) ∧ DiskAt w' p b (stepS S) (l ++ x :: r) ck ∧ Chg (fun g => g = p) w w' ∧ w'.heap.size = w.heap.size) := by
        have := due_any h hO.st
        rw [decide_eq_true h1] at this
        exact this
      have HL : Hid (lenX (l ++ x :: r) ≤ 1099511627776 ∧ S.keep ≤ 9223372036854775807) := ⟨hO.len h, hO.kp⟩
      clear h hO hl he hx hl1 hr1 h0 h1 hlen hn3
      generalize (⟨nm.toArray⟩ : ByteArray) = s at *
      go_enter Try.func34, Try.ntmps34
      go_wp2_with fail
      refine HF.out.mono ?_
      rintro e w1 ⟨rfl, rfl⟩
      obtain ⟨d0, d1⟩ := box2 HDF.out.box
      rw [HVS.out] at d0
      clear d1
      go_wp2_with fail
      refine HU.out.mono ?_
      rintro e w2 ⟨rfl, h2, hC2, hs2⟩
      have HX : Hid (DiskAt w2 p b (stepS S) (l ++ x :: r) ck ∧ Chg (fun g => g = p) w1 w2) := ⟨h2, hC2⟩
      clear h2 hC2 hs2
      go_wp2_with fail
      refine (giveUp_any HX.out.1 HL.out.1 HL.out.2).mono ?_
      rintro e w3 ⟨rfl, h3, hC3⟩
      have HY : Hid (Nxt w1 w3 p b (l ++ x :: r) (crashP S.keep S)) := ⟨_, _, h3, (HX.out.2.mono (fun _ _ e => .inl e)).trans hC3, fun g hg => .inl (leftX_blk hg)⟩
      clear h3 hC3
      go_wp2_with fail
      go_ret
      rw [HP.out]
      exact ⟨rfl, HY.out⟩
    · have HP : Hid (cutP S nm m = ({ stepS S with fs := S.fs.map (updF nm (Fl.cut m)) }, 0)) := by unfold cutP; rw [if_pos he, if_neg hn3, if_neg h1]; rfl
      have HU : Hid (Calls Try.prog 24 #[.pointer (some ⟨p, 0, none⟩)] w fun e w' => e = .returned (.bool false) ∧ DiskAt w' p b (stepS S) (l ++ x :: r) ck ∧ Chg (fun g => g = p) w w' ∧ w'.heap.size = w.heap.size) := by
        have := due_any h hO.st
        rw [decide_eq_false h1] at this
        exact this
      have HE : Hid (S.fs.map (updF nm (Fl.cut m)) = l.map X.fl ++ (x.cut m).fl :: r.map X.fl) := by rw [h.fs]; exact updF_mid hx hl1 hr1 rfl
      have HV : (x.cut m).v.ownBlock = x.v.ownBlock := cutV_own _ _
      clear h hO hl he hx hl1 hr1 h0 h1 hlen hn3
      generalize (⟨nm.toArray⟩ : ByteArray) = s at *
      go_enter Try.func34, Try.ntmps34
      go_wp2_with fail
      refine HF.out.mono ?_
      rintro e w1 ⟨rfl, rfl⟩
      obtain ⟨d0, d1⟩ := box2 HDF.out.box
      rw [HVS.out] at d0
      clear d1
      go_wp2_with fail
      refine HU.out.mono ?_
      rintro e w2 ⟨rfl, h2, hC2, hs2⟩
      have HX : Hid (DiskAt w2 p b (stepS S) (l ++ x :: r) ck ∧ Chg (fun g => g = p) w1 w2) := ⟨h2, hC2⟩
      clear h2 hC2 hs2
      go_wp2_with fail
      refine (cut_any (HX.out.1.file x hxm) m HNN.out).mono ?_
      rintro e w3 ⟨rfl, h3, hC3, hs3⟩
      have HY : Hid (Nxt w1 w3 p b (l ++ x :: r) ({ stepS S with fs := S.fs.map (updF nm (Fl.cut m)) })) := by
        refine ⟨l ++ x.cut m :: r, ck, ?_, (HX.out.2.mono (fun _ _ e => .inl e)).trans (hC3.mono (fun _ _ e => .inr (.inr ⟨x, hxm, .inl e⟩))), fun g hg => .inl (blk_mid (x := x) (x' := x.cut m) rfl HV hg)⟩
        rw [HE.out]
        exact HX.out.1.upd (hC3.mono (fun _ _ e => .inl e)) h3 rfl rfl rfl (fun g hg => .inl (by rw [← HV]; exact hg))
      clear h3 hC3 hs3
      go_wp2_with fail
      go_ret
      rw [HP.out]
      exact ⟨rfl, HY.out⟩
  · have HP : Hid (cutP S nm n = (S, findE S nm)) := by unfold cutP; rw [if_neg he]; rfl
    have HF : Hid (Calls Try.prog 26 #[.pointer (some ⟨p, 0, none⟩), .string ⟨nm.toArray⟩] w fun e w' => e = .returned (.tuple #[.pointer none, .int .i64 (findE S nm)]) ∧ w' = w) := find_bad h nm hl he
    have hb : (findE S nm != 0) = true := bne_iff_ne.2 he
    have HD : Hid (DiskAt w p b S xs ck) := h
    rw [HP.out]
    clear h hO hl he HP
    generalize findE S nm = er at *
    generalize (⟨nm.toArray⟩ : ByteArray) = s at *
    go_enter Try.func34, Try.ntmps34
    go_wp2_with fail
    refine HF.out.mono ?_
    rintro e w1 ⟨rfl, rfl⟩
    go_wp2_with fail
    go_ret
    exact ⟨rfl, _, _, HD.out, Chg.refl _ _, fun g hg => .inl hg⟩
/-! ## Remove -/
def removeP (S : Dk) (nm : List UInt8) : Dk × Int := if findE S nm = 0 then (if S.steps = 1 then (crashP S.keep S, 110) else ({ stepS S with fs := S.fs.filter (fun f => !decide (f.nm = nm)) }, 0)) else (S, findE S nm)
theorem filter_gone {l r : List X} {x : X} {nm : List UInt8} (hx : x.nm = nm) (hl : ∀ y ∈ l, y.nm ≠ nm) (hr : ∀ y ∈ r, y.nm ≠ nm) : ((l ++ x :: r).map X.fl).filter (fun f => !decide (f.nm = nm)) = (l ++ r).map X.fl := by
  have hk : ∀ m : List X, (∀ y ∈ m, y.nm ≠ nm) → (m.map X.fl).filter (fun f => !decide (f.nm = nm)) = m.map X.fl := fun m hm => by
    refine List.filter_eq_self.2 fun f hf => ?_
    obtain ⟨y, hy, rfl⟩ := List.mem_map.1 hf
    simp [X.fl, hm y hy]
  rw [List.map_append, List.filter_append, List.map_cons, List.filter_cons, hk l hl, hk r hr, List.map_append]
  simp [X.fl, hx]
theorem DiskAt.gone {W W' : World} {p b ck : Nat} {S : Dk} {l r : List X} {x : X} (h : DiskAt W p b S (l ++ x :: r) ck) (hm : MapAt W' b (l ++ r) ck) (hC : Chg (fun g => g = b) W W') (fs : List Fl) (hfs : fs = (l ++ r).map X.fl) : DiskAt W' p b { S with fs := fs } (l ++ r) ck := by
  have hin : ∀ y ∈ l ++ r, y ∈ l ++ x :: r := fun y hy => by
    rcases List.mem_append.1 hy with hy | hy
    · exact List.mem_append.2 (.inl hy)
    · exact List.mem_append.2 (.inr (List.mem_cons_of_mem _ hy))
  refine ⟨hC.block h.box h.p_ne_b, hm, fun y hy => (h.file y (hin y hy)).chg hC (fun e => h.b_ne_q (hin y hy) e.symm) (fun g hg e => h.b_ne_g (hin y hy) hg e.symm), nodup_mid h.qs, ?_, hfs⟩
  exact h.gs.sublist (List.Sublist.append (List.Sublist.refl l) (List.sublist_cons_self x r))
set_option maxHeartbeats 2000000 in
theorem remove_all {w : World} {p b ck : Nat} {S : Dk} {xs : List X} (h : DiskAt w p b S xs ck) (hO : S.Ok) (nm : List UInt8) (hl : nm.length ≤ 9223372036854775807) :
    Calls Try.prog 35 #[.pointer (some ⟨p, 0, none⟩), .string ⟨nm.toArray⟩] w fun e w' => e = .returned (.int .i64 (removeP S nm).2) ∧ Nxt w w' p b xs (removeP S nm).1 := by
  by_cases he : findE S nm = 0
  · obtain ⟨l, x, r, rfl, hx, hl1, hr1, h0, HF⟩ := find_good h nm hl he
    have hxm : x ∈ l ++ x :: r := by simp
    have HF : Hid (Calls Try.prog 26 #[.pointer (some ⟨p, 0, none⟩), .string ⟨nm.toArray⟩] w fun e w' => e = .returned (.tuple #[.pointer (some ⟨x.q, 0, none⟩), .int .i64 0]) ∧ w' = w) := HF
    by_cases h1 : S.steps = 1
    · have HP : Hid (removeP S nm = (crashP S.keep S, 110)) := by unfold removeP; rw [if_pos he, if_pos h1]; rfl
      have HU : Hid (Calls Try.prog 24 #[.pointer (some ⟨p, 0, none⟩)] w fun e w' => e = .returned (.bool true) ∧ DiskAt w' p b (stepS S) (l ++ x :: r) ck ∧ Chg (fun g => g = p) w w' ∧ w'.heap.size = w.heap.size) := by
        have := due_any h hO.st
        rw [decide_eq_true h1] at this
        exact this
      have HL : Hid (lenX (l ++ x :: r) ≤ 1099511627776 ∧ S.keep ≤ 9223372036854775807) := ⟨hO.len h, hO.kp⟩
      clear h hO hl he hx hl1 hr1 h0 h1
      generalize (⟨nm.toArray⟩ : ByteArray) = s at *
      go_enter Try.func35, Try.ntmps35
      go_wp2_with fail
      refine HF.out.mono ?_
      rintro e w1 ⟨rfl, rfl⟩
      go_wp2_with fail
      refine HU.out.mono ?_
      rintro e w2 ⟨rfl, h2, hC2, hs2⟩
      have HX : Hid (DiskAt w2 p b (stepS S) (l ++ x :: r) ck ∧ Chg (fun g => g = p) w1 w2) := ⟨h2, hC2⟩
      clear h2 hC2 hs2
      go_wp2_with fail
      refine (giveUp_any HX.out.1 HL.out.1 HL.out.2).mono ?_
      rintro e w3 ⟨rfl, h3, hC3⟩
      have HY : Hid (Nxt w1 w3 p b (l ++ x :: r) (crashP S.keep S)) := ⟨_, _, h3, (HX.out.2.mono (fun _ _ e => .inl e)).trans hC3, fun g hg => .inl (leftX_blk hg)⟩
      clear h3 hC3
      go_wp2_with fail
      go_ret
      rw [HP.out]
      exact ⟨rfl, HY.out⟩
    · have HP : Hid (removeP S nm = ({ stepS S with fs := S.fs.filter (fun f => !decide (f.nm = nm)) }, 0)) := by unfold removeP; rw [if_pos he, if_neg h1]; rfl
      have HU : Hid (Calls Try.prog 24 #[.pointer (some ⟨p, 0, none⟩)] w fun e w' => e = .returned (.bool false) ∧ DiskAt w' p b (stepS S) (l ++ x :: r) ck ∧ Chg (fun g => g = p) w w' ∧ w'.heap.size = w.heap.size) := by
        have := due_any h hO.st
        rw [decide_eq_false h1] at this
        exact this
      have HE : Hid (S.fs.filter (fun f => !decide (f.nm = nm)) = (l ++ r).map X.fl) := by rw [h.fs]; exact filter_gone hx hl1 hr1
      have HNM : Hid (x.nm = nm ∧ ∀ y ∈ l, y.nm ≠ nm) := ⟨hx, hl1⟩
      clear h hO hl he hx hl1 hr1 h0 h1
      obtain ⟨s, hss⟩ : ∃ s, (⟨nm.toArray⟩ : ByteArray) = s := ⟨_, rfl⟩
      have HSS : Hid ((⟨nm.toArray⟩ : ByteArray) = s) := hss
      rw [hss] at HF ⊢
      clear hss
      go_enter Try.func35, Try.ntmps35
      go_wp2_with fail
      refine HF.out.mono ?_
      rintro e w1 ⟨rfl, rfl⟩
      go_wp2_with fail
      refine HU.out.mono ?_
      rintro e w2 ⟨rfl, h2, hC2, hs2⟩
      have HX : Hid (DiskAt w2 p b (stepS S) (l ++ x :: r) ck ∧ Chg (fun g => g = p) w1 w2) := ⟨h2, hC2⟩
      clear h2 hC2 hs2
      obtain ⟨W3, hdel, hm3, hC3, hs3⟩ := del_hit HX.out.1.map HNM.out.1 HNM.out.2
      rw [HSS.out] at hdel
      have e1 := (box5 HX.out.1.box).2.1
      have HY : Hid (Nxt w1 W3 p b (l ++ x :: r) ({ stepS S with fs := S.fs.filter (fun f => !decide (f.nm = nm)) })) := ⟨l ++ r, ck, HX.out.1.gone hm3 hC3 _ HE.out, (HX.out.2.mono (fun _ _ e => .inl e)).trans (hC3.mono (fun _ _ e => .inr (.inl e))), fun g hg => .inl (by
        rcases hg with h | h | ⟨y, hy, h⟩
        · exact .inl h
        · exact .inr (.inl h)
        · refine .inr (.inr ⟨y, ?_, h⟩)
          rcases List.mem_append.1 hy with hy | hy
          · exact List.mem_append.2 (.inl hy)
          · exact List.mem_append.2 (.inr (List.mem_cons_of_mem _ hy)))⟩
      clear hm3 hC3 hs3
      go_wp2_with fail
      go_ret
      rw [HP.out]
      exact ⟨rfl, HY.out⟩
  · have HP : Hid (removeP S nm = (S, findE S nm)) := by unfold removeP; rw [if_neg he]; rfl
    have HF : Hid (Calls Try.prog 26 #[.pointer (some ⟨p, 0, none⟩), .string ⟨nm.toArray⟩] w fun e w' => e = .returned (.tuple #[.pointer none, .int .i64 (findE S nm)]) ∧ w' = w) := find_bad h nm hl he
    have hb : (findE S nm != 0) = true := bne_iff_ne.2 he
    have HD : Hid (DiskAt w p b S xs ck) := h
    rw [HP.out]
    clear h hO hl he HP
    generalize findE S nm = er at *
    generalize (⟨nm.toArray⟩ : ByteArray) = s at *
    go_enter Try.func35, Try.ntmps35
    go_wp2_with fail
    refine HF.out.mono ?_
    rintro e w1 ⟨rfl, rfl⟩
    go_wp2_with fail
    go_ret
    exact ⟨rfl, _, _, HD.out, Chg.refl _ _, fun g hg => .inl hg⟩
/-! ## Size and Read: the disk stands -/
def synF (fs : List Fl) (nm : List UInt8) : Nat := match fs.find? (fun f => decide (f.nm = nm)) with | some f => f.syn | none => 0
def bytesF (fs : List Fl) (nm : List UInt8) : List UInt8 := match fs.find? (fun f => decide (f.nm = nm)) with | some f => f.bs | none => []
theorem findF_mid {l r : List X} {x : X} {nm : List UInt8} (hx : x.nm = nm) (hl : ∀ y ∈ l, y.nm ≠ nm) : ((l ++ x :: r).map X.fl).find? (fun f => decide (f.nm = nm)) = some x.fl := by
  have h1 : (l.map X.fl).find? (fun f => decide (f.nm = nm)) = none := by
    rw [List.find?_eq_none]
    intro f hf
    obtain ⟨y, hy, rfl⟩ := List.mem_map.1 hf
    simp [X.fl, hl y hy]
  rw [List.map_append, List.find?_append, h1, List.map_cons, List.find?_cons_of_pos (by simp [X.fl, hx])]
  rfl
def sizeP (S : Dk) (nm : List UInt8) : Nat × Nat × Int := if findE S nm = 0 then (lenF S.fs nm, synF S.fs nm, 0) else (0, 0, findE S nm)
set_option maxHeartbeats 2000000 in
theorem size_all {w : World} {p b ck : Nat} {S : Dk} {xs : List X} (h : DiskAt w p b S xs ck) (nm : List UInt8) (hl : nm.length ≤ 9223372036854775807) :
    Calls Try.prog 36 #[.pointer (some ⟨p, 0, none⟩), .string ⟨nm.toArray⟩] w fun e w' => e = .returned (.tuple #[.int .i64 ((sizeP S nm).1 : Int), .int .i64 ((sizeP S nm).2.1 : Int), .int .i64 (sizeP S nm).2.2]) ∧ Below w.heap.size w w' := by
  by_cases he : findE S nm = 0
  · obtain ⟨l, x, r, rfl, hx, hl1, hr1, h0, HF⟩ := find_good h nm hl he
    have hxm : x ∈ l ++ x :: r := by simp
    have HF : Hid (Calls Try.prog 26 #[.pointer (some ⟨p, 0, none⟩), .string ⟨nm.toArray⟩] w fun e w' => e = .returned (.tuple #[.pointer (some ⟨x.q, 0, none⟩), .int .i64 0]) ∧ w' = w) := HF
    have HP : Hid (sizeP S nm = (x.bs.length, x.syn, 0)) := by
      unfold sizeP lenF synF
      rw [if_pos he, h.fs, findF_mid hx hl1]
      rfl
    obtain ⟨d0, d1⟩ := box2 (h.file x hxm).box
    obtain ⟨va, vc, hv, _, _, _⟩ := own_shape (h.file x hxm).own
    rw [hv] at d0
    clear h hl he hx hl1 hr1 h0 hv
    generalize (⟨nm.toArray⟩ : ByteArray) = s at *
    rw [HP.out]
    clear HP
    go_enter Try.func36, Try.ntmps36
    go_wp2_with fail
    refine HF.out.mono ?_
    rintro e w1 ⟨rfl, rfl⟩
    go_wp2_with fail
    go_quiet (fail)
    go_wp2_with fail
    go_ret3
    exact ⟨rfl, below_drewN (Below.refl _ _) _⟩
  · have HP : Hid (sizeP S nm = (0, 0, findE S nm)) := by unfold sizeP; rw [if_neg he]; rfl
    have HF : Hid (Calls Try.prog 26 #[.pointer (some ⟨p, 0, none⟩), .string ⟨nm.toArray⟩] w fun e w' => e = .returned (.tuple #[.pointer none, .int .i64 (findE S nm)]) ∧ w' = w) := find_bad h nm hl he
    have hb : (findE S nm != 0) = true := bne_iff_ne.2 he
    rw [HP.out]
    clear h hl he HP
    generalize findE S nm = er at *
    generalize (⟨nm.toArray⟩ : ByteArray) = s at *
    go_enter Try.func36, Try.ntmps36
    go_wp2_with fail
    refine HF.out.mono ?_
    rintro e w1 ⟨rfl, rfl⟩
    go_wp2_with fail
    go_ret3
    exact ⟨rfl, Below.refl _ _⟩
/-- 's[lo:lo+n]' of bytes -/
theorem cutM {W0 : World} {a : Option Addr} {n cap : Nat} {l : List UInt8} (h : Rw byU 1 W0 a n cap l) (lo k : Nat) (hk : lo + k ≤ n) :
    ∃ a' cap', (∀ W : World, (Instr.slice 22 (.slice a n cap) (some (.int .i64 (lo : Int))) (some (.int .i64 ((lo + k : Nat) : Int))) none).run Try.prog W = .ok (.slice a' k cap') W) ∧ Rw byU 1 W0 a' k cap' ((l.drop lo).take k) := by
  obtain ⟨i, z, hi, hz, hsz, hby, _⟩ := kindU.info
  have hroom := h.room
  have hlen := h.len
  have hrun : ∀ W : World, (Instr.slice 22 (.slice a n cap) (some (.int .i64 (lo : Int))) (some (.int .i64 ((lo + k : Nat) : Int))) none).run Try.prog W = .ok (sliced a lo (lo + k) cap 1) W := fun W => by
    have := run_slice_lh (P := Try.prog) W 22 a n cap (by rw [elemU]; exact kindU.under) .i64 .i64 (lo : Int) ((lo + k : Nat) : Int) (by omega) (by omega) (by omega)
    rw [this, elemU]
    simp [sizeOf, typeInfo, hi, hsz]
    rw [show ((lo : Int) + (k : Int)).toNat = lo + k by omega]
  by_cases hc : lo < cap
  · cases a with
    | none =>
      have h0 : n = 0 := by
        by_cases h0 : 0 < n
        · obtain ⟨g, off, e, _⟩ := h.cells h0
          cases e
        · omega
      refine ⟨none, cap - lo, fun W => ?_, ⟨by rw [List.length_take, List.length_drop]; omega, by omega, fun h9 => by omega⟩⟩
      rw [hrun W]
      simp [sliced]
    | some q =>
      by_cases h0 : 0 < n
      · obtain ⟨g, off, e, _⟩ := h.cells h0
        obtain rfl := Option.some.inj e
        refine ⟨some ⟨g, off + lo, none⟩, cap - lo, fun W => ?_, ?_⟩
        · rw [hrun W]
          simp [sliced, addr_add']
          omega
        · have h2 := (h.drop lo (by omega)).take k (by omega)
          rw [Nat.mul_one] at h2
          exact h2
      · refine ⟨some (q.add lo), cap - lo, fun W => ?_, ⟨by rw [List.length_take, List.length_drop]; omega, by omega, fun h9 => by omega⟩⟩
        rw [hrun W]
        simp [sliced]
        omega
  · refine ⟨a, 0, fun W => ?_, ⟨by rw [List.length_take, List.length_drop]; omega, by omega, fun h9 => by omega⟩⟩
    rw [hrun W]
    have e1 : lo = cap := by omega
    have e2 : k = 0 := by omega
    subst e1 e2
    simp [sliced]
def readP (S : Dk) (nm : List UInt8) (off n : Int) : List UInt8 × Int := if findE S nm = 0 then (if off < 0 ∨ n < 0 ∨ (lenF S.fs nm : Int) - off < n then ([], 12) else (((bytesF S.fs nm).drop off.toNat).take n.toNat, 0)) else ([], findE S nm)
set_option maxHeartbeats 2000000 in
theorem read_all {w : World} {p b ck : Nat} {S : Dk} {xs : List X} (h : DiskAt w p b S xs ck) (hO : S.Ok) (nm : List UInt8) (hl : nm.length ≤ 9223372036854775807) (off n : Int) (ho : off ≤ 9223372036854775807) (hn0 : n ≤ 9223372036854775807) :
    Calls Try.prog 10 #[.pointer (some ⟨p, 0, none⟩), .string ⟨nm.toArray⟩, .int .i64 off, .int .i64 n] w fun e w' => ∃ a cap, e = .returned (.tuple #[.slice a (readP S nm off n).1.length cap, .int .i64 (readP S nm off n).2]) ∧ OwnF byU 1 5 w' w.heap.size (.slice a (readP S nm off n).1.length cap) (readP S nm off n).1 ∧ Below w.heap.size w w' := by
  by_cases he : findE S nm = 0
  · obtain ⟨l, x, r, rfl, hx, hl1, hr1, h0, HF⟩ := find_good h nm hl he
    have hxm : x ∈ l ++ x :: r := by simp
    have HF : Hid (Calls Try.prog 26 #[.pointer (some ⟨p, 0, none⟩), .string ⟨nm.toArray⟩] w fun e w' => e = .returned (.tuple #[.pointer (some ⟨x.q, 0, none⟩), .int .i64 0]) ∧ w' = w) := HF
    have hlen : lenF S.fs nm = x.bs.length := by rw [h.fs]; exact lenF_mid hx hl1
    have hby : bytesF S.fs nm = x.bs := by unfold bytesF; rw [h.fs, findF_mid hx hl1]; rfl
    have hxl := lenX_mem hxm
    have hxo := hO.len h
    obtain ⟨d0, d1⟩ := box2 (h.file x hxm).box
    obtain ⟨va, vc, hv, _, _, hrw⟩ := own_shape (h.file x hxm).own
    rw [hv] at d0
    clear d1
    by_cases hbad : off < 0 ∨ n < 0 ∨ (lenF S.fs nm : Int) - off < n
    · have HP : Hid (readP S nm off n = ([], 12)) := by unfold readP; rw [if_pos he, if_pos hbad]; rfl
      rw [hlen] at hbad
      rw [HP.out]
      have hfin : ∀ w1 : World, w1 = w → ∃ a cap, (Ending.returned (.tuple #[.slice none 0 0, .int .i64 12]) : Ending) = .returned (.tuple #[.slice a ([] : List UInt8).length cap, .int .i64 12]) ∧ OwnF byU 1 5 w1 w.heap.size (.slice a ([] : List UInt8).length cap) ([] : List UInt8) ∧ Below w.heap.size w w1 := fun w1 e => ⟨none, 0, rfl, ownF_nil _ _, by rw [e]; exact Below.refl _ _⟩
      have HFN : Hid (∀ w1 : World, w1 = w → ∃ a cap, (Ending.returned (.tuple #[.slice none 0 0, .int .i64 12]) : Ending) = .returned (.tuple #[.slice a ([] : List UInt8).length cap, .int .i64 12]) ∧ OwnF byU 1 5 w1 w.heap.size (.slice a ([] : List UInt8).length cap) ([] : List UInt8) ∧ Below w.heap.size w w1) := hfin
      by_cases b1 : off < 0
      · clear h hO hl he hx hl1 hr1 h0 hlen hby hxl hxo hv hrw hbad hfin HP d0
        generalize (⟨nm.toArray⟩ : ByteArray) = s at *
        go_enter Try.func10, Try.ntmps10
        go_wp2_with fail
        refine HF.out.mono ?_
        rintro e w1 ⟨rfl, rfl⟩
        go_wp2_with fail
        go_ret2
        exact HFN.out _ rfl
      · by_cases b2 : n < 0
        · clear h hO hl he hx hl1 hr1 h0 hlen hby hxl hxo hv hrw hbad hfin HP d0
          generalize (⟨nm.toArray⟩ : ByteArray) = s at *
          go_enter Try.func10, Try.ntmps10
          go_wp2_with fail
          refine HF.out.mono ?_
          rintro e w1 ⟨rfl, rfl⟩
          go_wp2_with fail
          go_ret2
          exact HFN.out _ rfl
        · have g0 : IntKind.i64.wrap ((x.bs.length : Int) - off) = (x.bs.length : Int) - off := IntWalk.i64_in _ (by omega)
          have b3 : (x.bs.length : Int) - off < n := by omega
          clear h hO hl he hx hl1 hr1 h0 hlen hby hxl hxo hv hrw hbad hfin HP
          generalize (⟨nm.toArray⟩ : ByteArray) = s at *
          go_enter Try.func10, Try.ntmps10
          go_wp2_with fail
          refine HF.out.mono ?_
          rintro e w1 ⟨rfl, rfl⟩
          go_wp2_with fail
          go_ret2
          exact HFN.out _ rfl
    · have hb2 := hbad
      rw [hlen] at hb2
      have b1 : ¬ off < 0 := fun e => hb2 (.inl e)
      have b2 : ¬ n < 0 := fun e => hb2 (.inr (.inl e))
      have b3 : ¬ (x.bs.length : Int) - off < n := fun e => hb2 (.inr (.inr e))
      obtain ⟨lo, rfl⟩ : ∃ m : Nat, off = (m : Int) := ⟨off.toNat, by omega⟩
      obtain ⟨k, rfl⟩ : ∃ m : Nat, n = (m : Int) := ⟨n.toNat, by omega⟩
      have HP : Hid (readP S nm lo k = ((x.bs.drop lo).take k, 0)) := by unfold readP; rw [if_pos he, if_neg hbad, hby]; rfl
      have hkl : ((x.bs.drop lo).take k).length = k := by rw [List.length_take, List.length_drop]; omega
      rw [HP.out]
      simp only [hkl]
      obtain ⟨a', cap', hcut, hrw2⟩ := cutM hrw lo k (by omega)
      have g0 : IntKind.i64.wrap ((x.bs.length : Int) - (lo : Int)) = (x.bs.length : Int) - (lo : Int) := IntWalk.i64_in _ (by omega)
      have g1 : IntKind.i64.wrap ((lo : Int) + (k : Int)) = ((lo + k : Nat) : Int) := by rw [IntWalk.i64_in _ (by omega)]; omega
      obtain ⟨e9, he9⟩ : ∃ m : Nat, m = lo + k := ⟨_, rfl⟩
      rw [← he9] at hcut g1
      have HCL : Hid (Calls Try.prog 27 #[.slice a' k cap'] w fun e w' => ∃ a'' cap'', e = .returned (.slice a'' k cap'') ∧ OwnF byU 1 5 w' w.heap.size (.slice a'' k cap'') ((x.bs.drop lo).take k) ∧ Below w.heap.size w w') := cloneU hrw2 (by omega)
      clear h hO hl he hx hl1 hr1 h0 hlen hby hxl hxo hv hrw hbad hb2 HP hkl hrw2 he9
      generalize (x.bs.drop lo).take k = res at *
      generalize (⟨nm.toArray⟩ : ByteArray) = s at *
      go_enter Try.func10, Try.ntmps10
      go_wp2_with fail
      refine HF.out.mono ?_
      rintro e w1 ⟨rfl, rfl⟩
      go_wp2_with fail
      refine HCL.out.mono ?_
      rintro e w2 ⟨a2, c2, rfl, ho2, hb2⟩
      have HX : Hid (OwnF byU 1 5 w2 w1.heap.size (.slice a2 k c2) res ∧ Below w1.heap.size w1 w2) := ⟨ho2, hb2⟩
      clear ho2 hb2
      go_wp2_with fail
      go_ret2
      exact ⟨a2, c2, rfl, HX.out⟩
  · have HP : Hid (readP S nm off n = ([], findE S nm)) := by unfold readP; rw [if_neg he]; rfl
    have HF : Hid (Calls Try.prog 26 #[.pointer (some ⟨p, 0, none⟩), .string ⟨nm.toArray⟩] w fun e w' => e = .returned (.tuple #[.pointer none, .int .i64 (findE S nm)]) ∧ w' = w) := find_bad h nm hl he
    have hb : (findE S nm != 0) = true := bne_iff_ne.2 he
    rw [HP.out]
    clear h hO hl he HP ho hn0
    generalize findE S nm = er at *
    generalize (⟨nm.toArray⟩ : ByteArray) = s at *
    go_enter Try.func10, Try.ntmps10
    go_wp2_with fail
    refine HF.out.mono ?_
    rintro e w1 ⟨rfl, rfl⟩
    go_wp2_with fail
    go_ret2
    exact ⟨none, 0, rfl, ownF_nil _ _, Below.refl _ _⟩
end Go.Proofs.Ytjcfeaekhefpfaa
