import Derived.Test.YtjcfeaekhefpfaaDcA
/-! Turn, Arm, Crash, Append and New in all cases. -/
namespace Go.Proofs.Ytjcfeaekhefpfaa
open Go.RowKit Go.Lib
set_option maxRecDepth 100000

/-! ## Turn -/
theorem bits_xor_u8 (a c : UInt8) : bits .xor .u8 (a.toNat : Int) (c.toNat : Int) = (((a ^^^ c).toNat : Nat) : Int) := by
  have h3 : (a ^^^ c).toNat < 256 := UInt8.toNat_lt _
  have e1 : (BitVec.ofInt 8 (a.toNat : Int) ^^^ BitVec.ofInt 8 (c.toNat : Int)).toNat = (a ^^^ c).toNat := by
    rw [BitVec.toNat_xor, BitVec.ofInt_natCast, BitVec.ofInt_natCast, BitVec.toNat_ofNat, BitVec.toNat_ofNat, UInt8.toNat_xor, Nat.mod_eq_of_lt (UInt8.toNat_lt a), Nat.mod_eq_of_lt (UInt8.toNat_lt c)]
  show IntKind.u8.wrap ((BitVec.ofInt 8 (a.toNat : Int) ^^^ BitVec.ofInt 8 (c.toNat : Int)).toNat : Int) = _
  rw [e1]
  show ((a ^^^ c).toNat : Int) % 256 = _
  omega
theorem flatU_set (l : List UInt8) (i : Nat) (c : UInt8) : flatF byU (l.set i c) = (flatF byU l).set i (.int .u8 (c.toNat : Int)) := by
  induction l generalizing i with
  | nil => simp [flatF]
  | cons x t ih =>
    cases i with
    | zero => simp [flatF, byU]
    | succ i =>
      have := ih i
      simp only [flatF] at this ⊢
      simp [this, byU]
/-- a byte of an owned row is written -/
theorem own_setU {W : World} {B g cap : Nat} {l : List UInt8} (h : OwnF byU 1 5 W B (.slice (some ⟨g, 0, none⟩) l.length cap) l) (i : Nat) (c : UInt8) :
    OwnF byU 1 5 (W.setCell ⟨g, i, none⟩ (.int .u8 (c.toNat : Int))) B (.slice (some ⟨g, 0, none⟩) l.length cap) (l.set i c) := by
  rcases h.2 with ⟨e, _⟩ | ⟨g', cap', cur, e, h1, hh, h2, h3, h4, h5⟩
  · cases e
  · simp only [Value.slice.injEq, Option.some.injEq, Addr.mk.injEq, and_true, true_and] at e
    obtain ⟨rfl, rfl⟩ := e
    refine ⟨by rw [flatF_length layU], .inr ⟨g, cap, cur.setIfInBounds i (.int .u8 (c.toNat : Int)), by rw [List.length_set], h1, heap_setCell_cells hh i _, by rw [List.length_set]; exact h2, h3, by rw [Array.size_setIfInBounds]; exact h4, ?_⟩⟩
    rw [List.length_set, flatU_set, ← h5, Array.toList_setIfInBounds, List.take_set]
def Fl.turn (i : Nat) (c : UInt8) (f : Fl) : Fl := ⟨f.nm, f.bs.set i ((f.bs.getD i 0) ^^^ c), f.syn⟩
def turnP (S : Dk) (nm : List UInt8) (n : Int) (c : UInt8) : Dk × Int := if findE S nm = 0 then (if n < 0 ∨ (lenF S.fs nm : Int) ≤ n then (S, 12) else ({ S with fs := S.fs.map (updF nm (Fl.turn n.toNat c)) }, 0)) else (S, findE S nm)
def X.turn (i : Nat) (c : UInt8) (x : X) : X := { x with bs := x.bs.set i ((x.bs.getD i 0) ^^^ c) }
set_option maxHeartbeats 2000000 in
theorem turn_all {w : World} {p b ck : Nat} {S : Dk} {xs : List X} (h : DiskAt w p b S xs ck) (nm : List UInt8) (hl : nm.length ≤ 9223372036854775807) (n : Int) (c : UInt8) :
    Calls Try.prog 38 #[.pointer (some ⟨p, 0, none⟩), .string ⟨nm.toArray⟩, .int .i64 n, .int .u8 (c.toNat : Int)] w fun e w' => e = .returned (.int .i64 (turnP S nm n c).2) ∧ Nxt w w' p b xs (turnP S nm n c).1 := by
  by_cases he : findE S nm = 0
  · obtain ⟨l, x, r, rfl, hx, hl1, hr1, h0, HF⟩ := find_good h nm hl he
    have hxm : x ∈ l ++ x :: r := by simp
    have HF : Hid (Calls Try.prog 26 #[.pointer (some ⟨p, 0, none⟩), .string ⟨nm.toArray⟩] w fun e w' => e = .returned (.tuple #[.pointer (some ⟨x.q, 0, none⟩), .int .i64 0]) ∧ w' = w) := HF
    have hlen := lenF_mid (r := r) hx hl1
    rw [← h.fs] at hlen
    obtain ⟨va, vc, hv, hvc, hvm, hrw⟩ := own_shape (h.file x hxm).own
    obtain ⟨d0, d1⟩ := box2 (h.file x hxm).box
    rw [hv] at d0
    clear d1
    by_cases hn : n < 0 ∨ (lenF S.fs nm : Int) ≤ n
    · have HP : Hid (turnP S nm n c = (S, 12)) := by unfold turnP; rw [if_pos he, if_pos hn]; rfl
      have HD : Hid (DiskAt w p b S (l ++ x :: r) ck) := h
      rw [hlen] at hn
      clear h hl he hx hl1 hr1 h0 hlen hv hvc hvm hrw
      generalize (⟨nm.toArray⟩ : ByteArray) = s at *
      by_cases h9 : n < 0
      · clear hn d0
        go_enter Try.func38, Try.ntmps38
        go_wp2_with fail
        refine HF.out.mono ?_
        rintro e w1 ⟨rfl, rfl⟩
        go_wp2_with fail
        go_ret
        rw [HP.out]
        exact ⟨rfl, _, _, HD.out, Chg.refl _ _, fun g hg => .inl hg⟩
      · have h8 : (x.bs.length : Int) ≤ n := by omega
        clear hn
        go_enter Try.func38, Try.ntmps38
        go_wp2_with fail
        refine HF.out.mono ?_
        rintro e w1 ⟨rfl, rfl⟩
        go_wp2_with fail
        go_ret
        rw [HP.out]
        exact ⟨rfl, _, _, HD.out, Chg.refl _ _, fun g hg => .inl hg⟩
    · have hn3 := hn
      rw [hlen] at hn
      have hn1 : ¬ n < 0 := fun e => hn (.inl e)
      have hn2 : ¬ (x.bs.length : Int) ≤ n := fun e => hn (.inr e)
      obtain ⟨m, rfl⟩ : ∃ m : Nat, n = (m : Int) := ⟨n.toNat, by omega⟩
      have hm : m < x.bs.length := by omega
      have HP : Hid (turnP S nm m c = ({ S with fs := S.fs.map (updF nm (Fl.turn m c)) }, 0)) := by unfold turnP; rw [if_pos he, if_neg hn3]; rfl
      obtain ⟨g, off, y, hg, hglt, hy, hc⟩ := hrw.at m hm
      have hF := h.file x hxm
      have hoff : off = 0 := by
        rcases hF.own.2 with ⟨e, h9⟩ | ⟨g', cap', cur, e, _⟩
        · omega
        · rw [hv, hg] at e
          simp only [Value.slice.injEq, Option.some.injEq, Addr.mk.injEq, and_true] at e
          exact e.1.2
      subst hg hoff
      have k0 : w.cell? ⟨g, m, none⟩ = some (.int .u8 (y.toNat : Int)) := by simpa using hc 0 _ rfl
      obtain ⟨cur, hcur⟩ := own_block hF.own (g := g) (by rw [hv]; rfl)
      have f0 := Lib.frozen_of_heap hcur m
      have hxor := bits_xor_u8 y c
      have hq : (⟨g, 0, none⟩ : Addr).add m = ⟨g, m, none⟩ := by rw [addr_add', Nat.zero_add]
      have hyd : x.bs.getD m 0 = y := by rw [List.getD_eq_getElem?_getD, hy]; rfl
      have HY : Hid (Nxt w (w.setCell ⟨g, m, none⟩ (.int .u8 ((y ^^^ c).toNat : Int))) p b (l ++ x :: r) { S with fs := S.fs.map (updF nm (Fl.turn m c)) }) := by
        have hC : Chg (fun q => q = x.q ∨ x.v.ownBlock = some q) w (w.setCell ⟨g, m, none⟩ (.int .u8 ((y ^^^ c).toNat : Int))) := Chg.set (D := fun q => q = x.q ∨ x.v.ownBlock = some q) (q := g) m _ _ (.inr (by rw [hv]; rfl))
        have hC2 : Chg (fun q => q = g) w (w.setCell ⟨g, m, none⟩ (.int .u8 ((y ^^^ c).toNat : Int))) := Chg.set (D := fun q => q = g) (q := g) m _ _ rfl
        have hF2 : FileAt (w.setCell ⟨g, m, none⟩ (.int .u8 ((y ^^^ c).toNat : Int))) (x.turn m c) := by
          have hne : x.q ≠ g := q_ne_g hF hF (by rw [hv]; rfl)
          refine ⟨hC2.block hF.box hne, ?_, ?_⟩
          · have ho := hF.own
            rw [hv] at ho
            have := own_setU ho m (y ^^^ c)
            show OwnF byU 1 5 _ 0 x.v (x.bs.set m ((x.bs.getD m 0) ^^^ c))
            rw [hv, hyd]
            exact this
          · show x.syn ≤ (x.bs.set m _).length
            rw [List.length_set]
            exact hF.syn
        refine ⟨l ++ x.turn m c :: r, ck, ?_, hC.mono (fun q _ e => .inr (.inr ⟨x, hxm, e⟩)), fun q hq => .inl (blk_mid (x := x) (x' := x.turn m c) rfl rfl hq)⟩
        have hE : S.fs.map (updF nm (Fl.turn m c)) = l.map X.fl ++ (x.turn m c).fl :: r.map X.fl := by rw [h.fs]; exact updF_mid hx hl1 hr1 rfl
        rw [hE]
        exact h.upd hC hF2 rfl rfl rfl (fun q hq => .inl hq)
      have hm2 : (m : Int) < (x.bs.length : Int) := by omega
      clear h hl he hx hl1 hr1 h0 hlen hv hvc hvm hrw hn hn3 hm hc hy hF hcur hyd hglt
      generalize (⟨nm.toArray⟩ : ByteArray) = s at *
      go_enter Try.func38, Try.ntmps38
      go_wp2_with fail
      refine HF.out.mono ?_
      rintro e w1 ⟨rfl, rfl⟩
      go_wp2_with fail
      go_ret
      rw [HP.out]
      exact ⟨rfl, HY.out⟩
  · have HP : Hid (turnP S nm n c = (S, findE S nm)) := by unfold turnP; rw [if_neg he]; rfl
    have HF : Hid (Calls Try.prog 26 #[.pointer (some ⟨p, 0, none⟩), .string ⟨nm.toArray⟩] w fun e w' => e = .returned (.tuple #[.pointer none, .int .i64 (findE S nm)]) ∧ w' = w) := find_bad h nm hl he
    have hb : (findE S nm != 0) = true := bne_iff_ne.2 he
    have HD : Hid (DiskAt w p b S xs ck) := h
    rw [HP.out]
    clear h hl he HP
    generalize findE S nm = er at *
    generalize (⟨nm.toArray⟩ : ByteArray) = s at *
    go_enter Try.func38, Try.ntmps38
    go_wp2_with fail
    refine HF.out.mono ?_
    rintro e w1 ⟨rfl, rfl⟩
    go_wp2_with fail
    go_ret
    exact ⟨rfl, _, _, HD.out, Chg.refl _ _, fun g hg => .inl hg⟩
/-! ## Arm, Crash, Append, New -/
theorem nxt_same {w : World} {p b ck : Nat} {S : Dk} {xs : List X} (h : DiskAt w p b S xs ck) : Nxt w w p b xs S := ⟨_, _, h, Chg.refl _ _, fun _ hg => .inl hg⟩
theorem nxt_box {w w' : World} {p b ck : Nat} {S' : Dk} {xs : List X} (h : DiskAt w' p b S' xs ck) (hC : Chg (fun g => g = p) w w') : Nxt w w' p b xs S' := ⟨_, _, h, hC.mono (fun _ _ e => .inl e), fun _ hg => .inl hg⟩
def armP (S : Dk) (s k : Int) : Dk × Int := if S.down = true then (S, 110) else if s = 0 then ({ S with steps := 0, keep := 0 }, 0) else if s < 0 ∨ k < 0 then (S, 12) else ({ S with steps := s.toNat, keep := k.toNat }, 0)
set_option maxHeartbeats 2000000 in
theorem arm_all {w : World} {p b ck : Nat} {S : Dk} {xs : List X} (h : DiskAt w p b S xs ck) (s k : Int) :
    Calls Try.prog 37 #[.pointer (some ⟨p, 0, none⟩), .int .i64 s, .int .i64 k] w fun e w' => e = .returned (.int .i64 (armP S s k).2) ∧ Nxt w w' p b xs (armP S s k).1 := by
  have f3 := Lib.frozen_of_heap h.box 3
  have f4 := Lib.frozen_of_heap h.box 4
  obtain ⟨c0, c1, c2, c3, c4⟩ := box5 h.box
  have HH : Hid (DiskAt w p b S xs ck) := h
  unfold armP
  by_cases hd0 : S.down = true
  · rw [hd0] at c2
    rw [if_pos hd0]
    have hd := hd0
    clear hd0
    clear h hd f3 f4 c0 c1 c3 c4
    go_enter Try.func37, Try.ntmps37
    go_wp2_with fail
    go_ret
    exact ⟨rfl, nxt_same HH.out⟩
  · have hd : S.down = false := by simpa using hd0
    rw [hd] at c2
    rw [if_neg hd0]
    clear hd0
    by_cases hs : s = 0
    · rw [if_pos hs]
      subst hs
      clear h hd
      go_enter Try.func37, Try.ntmps37
      go_wp2_with fail
      go_ret
      have hb := setBox2 HH.out.box (.int .i64 0) (.int .i64 0)
      exact ⟨rfl, nxt_box (HH.out.setBox hb.2 hb.1 rfl) hb.2⟩
    · rw [if_neg hs]
      have g1 : (s == 0) = false := beq_eq_false_iff_ne.2 hs
      by_cases hb : s < 0 ∨ k < 0
      · rw [if_pos hb]
        by_cases h1 : s < 0
        · clear h hd hb hs f3 f4 c0 c1 c3 c4
          go_enter Try.func37, Try.ntmps37
          go_wp2_with fail
          go_ret
          exact ⟨rfl, nxt_same HH.out⟩
        · have h2 : k < 0 := by omega
          clear h hd hb hs f3 f4 c0 c1 c3 c4
          go_enter Try.func37, Try.ntmps37
          go_wp2_with fail
          go_ret
          exact ⟨rfl, nxt_same HH.out⟩
      · rw [if_neg hb]
        have h1 : ¬ s < 0 := fun e => hb (.inl e)
        have h2 : ¬ k < 0 := fun e => hb (.inr e)
        obtain ⟨m, rfl⟩ : ∃ m : Nat, s = (m : Int) := ⟨s.toNat, by omega⟩
        obtain ⟨j, rfl⟩ : ∃ m : Nat, k = (m : Int) := ⟨k.toNat, by omega⟩
        have := arm_any h hd m j (by omega)
        refine this.mono ?_
        rintro e w' ⟨rfl, h3, h4, _⟩
        exact ⟨rfl, nxt_box h3 h4⟩
def crashC (S : Dk) (k : Int) : Dk × Int := if S.down = true then (S, 110) else if k < 0 then (S, 12) else (crashP k.toNat S, 0)
set_option maxHeartbeats 2000000 in
theorem crash_all {w : World} {p b ck : Nat} {S : Dk} {xs : List X} (h : DiskAt w p b S xs ck) (hO : S.Ok) (k : Int) (hk : k ≤ 9223372036854775807) :
    Calls Try.prog 33 #[.pointer (some ⟨p, 0, none⟩), .int .i64 k] w fun e w' => e = .returned (.int .i64 (crashC S k).2) ∧ Nxt w w' p b xs (crashC S k).1 := by
  obtain ⟨c0, c1, c2, c3, c4⟩ := box5 h.box
  have HH : Hid (DiskAt w p b S xs ck) := h
  unfold crashC
  by_cases hd0 : S.down = true
  · rw [hd0] at c2
    rw [if_pos hd0]
    have hd := hd0
    clear hd0
    clear h hd c0 c1 c3 c4
    go_enter Try.func33, Try.ntmps33
    go_wp2_with fail
    go_ret
    exact ⟨rfl, nxt_same HH.out⟩
  · have hd : S.down = false := by simpa using hd0
    rw [hd] at c2
    rw [if_neg hd0]
    clear hd0
    by_cases h1 : k < 0
    · rw [if_pos h1]
      clear h hd c0 c1 c3 c4
      go_enter Try.func33, Try.ntmps33
      go_wp2_with fail
      go_ret
      exact ⟨rfl, nxt_same HH.out⟩
    · rw [if_neg h1]
      obtain ⟨j, rfl⟩ : ∃ m : Nat, k = (m : Int) := ⟨k.toNat, by omega⟩
      refine (crashCall_any h hd (hO.len h) j (by omega)).mono ?_
      rintro e w' ⟨rfl, h3, h4⟩
      exact ⟨rfl, _, _, h3, h4, fun g hg => .inl (leftX_blk hg)⟩
def appC (S : Dk) (nm bs : List UInt8) : Dk × Int × Int := if readyP S nm = 0 then appP S nm bs else (S, 0, readyP S nm)
theorem name_short {S : Dk} {nm : List UInt8} (h : readyP S nm = 0) : nm.length ≤ 32 := by
  unfold readyP at h
  split at h
  · cases h
  · split at h
    · rename_i hn
      unfold nameOk at hn
      simp only [Bool.and_eq_true, decide_eq_true_eq] at hn
      exact hn.1.2
    · cases h
set_option maxHeartbeats 2000000 in
theorem append_all {w : World} {p b ck : Nat} {S : Dk} {xs : List X} (h : DiskAt w p b S xs ck) (hO : S.Ok) (nm : List UInt8) (hl : nm.length ≤ 9223372036854775807) {a : Option Addr} {m cap : Nat} {bs : List UInt8} (hb : Rw byU 1 w a m cap bs) :
    Calls Try.prog 9 #[.pointer (some ⟨p, 0, none⟩), .string ⟨nm.toArray⟩, .slice a m cap] w fun e w' => e = .returned (.tuple #[.int .i64 (appC S nm bs).2.1, .int .i64 (appC S nm bs).2.2]) ∧ Nxt w w' p b xs (appC S nm bs).1 := by
  unfold appC
  by_cases h0 : readyP S nm = 0
  · rw [if_pos h0]
    exact append_any h hO nm h0 (by have := name_short h0; omega) hb
  · rw [if_neg h0]
    have HR : Hid (Calls Try.prog 22 #[.pointer (some ⟨p, 0, none⟩), .string ⟨nm.toArray⟩] w fun e w' => e = .returned (.int .i64 (readyP S nm)) ∧ w' = w) := ready_any h nm hl
    have hbb : (readyP S nm != 0) = true := bne_iff_ne.2 h0
    have HH : Hid (DiskAt w p b S xs ck) := h
    clear h hO hl hb h0
    generalize readyP S nm = er at *
    generalize (⟨nm.toArray⟩ : ByteArray) = s at *
    go_enter Try.func9, Try.ntmps9
    go_wp2_with fail
    refine HR.out.mono ?_
    rintro e w1 ⟨rfl, rfl⟩
    go_wp2_with fail
    go_ret2
    exact ⟨rfl, nxt_same HH.out⟩
set_option maxHeartbeats 1000000 in
theorem new_bad (n : Int) (hn : n < 0 ∨ 1099511627776 < n) (w : World) : Calls Try.prog 5 #[.int .i64 n] w fun e w' => e = .returned (.tuple #[.pointer none, .int .i64 12]) ∧ w' = w := by
  by_cases h1 : n < 0
  · clear hn
    go_enter Try.func5, Try.ntmps5
    go_wp2_with fail
    go_ret2
    exact ⟨rfl, rfl⟩
  · have h2 : (1099511627776 : Int) < n := by omega
    clear hn
    go_enter Try.func5, Try.ntmps5
    go_wp2_with fail
    go_ret2
    exact ⟨rfl, rfl⟩
end Go.Proofs.Ytjcfeaekhefpfaa
