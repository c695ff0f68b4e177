import Derived.Test.YtjcfeaekhefpfaaDcE
/-! What holds of a disk throughout; does in one word. -/
namespace Go.Proofs.Ytjcfeaekhefpfaa
open Go.RowKit Go.Lib Go.Sort Go.Shelf
set_option maxRecDepth 100000

structure OpR where
  kind : Int
  nm : List UInt8
  ba : Option Addr
  bc : Nat
  B : List UInt8
  N : Int
  M : Int
def opV (o : OpR) : List Value := [.int .i64 o.kind, .string ⟨o.nm.toArray⟩, .slice o.ba o.B.length o.bc, .int .i64 o.N, .int .i64 o.M]
theorem layOp : Lay opV 5 := ⟨fun _ => rfl, by decide, fun x u hu => by simp [opV] at hu; rcases hu with rfl | rfl | rfl | rfl | rfl <;> rfl⟩
structure OpIn (W : World) (o : OpR) : Prop where
  row : Rw byU 1 W o.ba o.B.length o.bc o.B
  nm : o.nm.length ≤ 9223372036854775807
  N : o.N ≤ 9223372036854775807
  M : o.M ≤ 9223372036854775807
  B : o.B.length ≤ 140737488351232
def doesS (S : Dk) (o : OpR) : Dk :=
  if o.kind = 1 then (appC S o.nm o.B).1 else if o.kind = 2 then (syncP S o.nm).1 else if o.kind = 3 then (cutP S o.nm o.N).1 else if o.kind = 4 then (removeP S o.nm).1
  else if o.kind = 8 then (armP S o.N o.M).1 else if o.kind = 9 then (crashC S o.N).1 else if o.kind = 10 then (upP S).1 else if o.kind = 11 then (turnP S o.nm o.N (maskOf o.M)).1 else S
structure Inv (S : Dk) (c : Nat) : Prop where
  ok : S.Ok
  cnt : S.fs.length ≤ c
  nms : ∀ f ∈ S.fs, f.nm.length ≤ 32
theorem Inv.mono {S : Dk} {c d : Nat} (h : Inv S c) (hd : c ≤ d) : Inv S d := ⟨h.ok, Nat.le_trans h.cnt hd, h.nms⟩
/-! ## Sums -/
theorem used_cons (f : Fl) (fs : List Fl) : used (f :: fs) = f.bs.length + used fs := by simp [used]
theorem used_append (a b : List Fl) : used (a ++ b) = used a + used b := by simp [used]
theorem used_map_le (g : Fl → Fl) (hg : ∀ f, (g f).bs.length ≤ f.bs.length) : ∀ fs : List Fl, used (fs.map g) ≤ used fs
  | [] => Nat.le_refl _
  | f :: fs => by
    have := used_map_le g hg fs
    have := hg f
    rw [List.map_cons, used_cons, used_cons]
    omega
theorem used_filter_le (q : Fl → Bool) : ∀ fs : List Fl, used (fs.filter q) ≤ used fs
  | [] => Nat.le_refl _
  | f :: fs => by
    have := used_filter_le q fs
    rw [List.filter_cons, used_cons]
    split
    · rw [used_cons]; omega
    · omega
theorem updF_le {nm : List UInt8} {g : Fl → Fl} (hg : ∀ f, (g f).bs.length ≤ f.bs.length) (f : Fl) : (updF nm g f).bs.length ≤ f.bs.length := by
  unfold updF
  split
  · exact hg f
  · exact Nat.le_refl _
theorem updF_nm {nm : List UInt8} {g : Fl → Fl} (hg : ∀ f, (g f).nm = f.nm) (f : Fl) : (updF nm g f).nm = f.nm := by
  unfold updF
  split
  · exact hg f
  · rfl
theorem lose_le (k : Nat) (f : Fl) : (f.lose k).bs.length ≤ f.bs.length := by
  show (f.bs.take _).length ≤ _
  rw [List.length_take]
  omega
theorem inv_crash {S : Dk} {c : Nat} (h : Inv S c) (k : Nat) : Inv (crashP k S) c := by
  refine ⟨⟨h.ok.lim, ?_, Nat.zero_le _, Nat.zero_le _⟩, ?_, fun f hf => ?_⟩
  · exact Nat.le_trans (used_filter_le _ _) (Nat.le_trans (used_map_le _ (lose_le k) _) h.ok.use)
  · refine Nat.le_trans (List.length_filter_le _ _) ?_
    rw [List.length_map]
    exact h.cnt
  · obtain ⟨g, hg, rfl⟩ := List.mem_map.1 (List.mem_filter.1 hf).1
    exact h.nms g hg
theorem inv_step {S : Dk} {c : Nat} (h : Inv S c) : Inv (stepS S) c := ⟨⟨h.ok.lim, h.ok.use, Nat.le_trans (Nat.sub_le _ _) h.ok.st, h.ok.kp⟩, h.cnt, h.nms⟩
theorem inv_upd {S : Dk} {c : Nat} (h : Inv S c) (nm : List UInt8) (g : Fl → Fl) (h1 : ∀ f, (g f).bs.length ≤ f.bs.length) (h2 : ∀ f, (g f).nm = f.nm) : Inv { S with fs := S.fs.map (updF nm g) } c := by
  refine ⟨⟨h.ok.lim, Nat.le_trans (used_map_le _ (updF_le h1) _) h.ok.use, h.ok.st, h.ok.kp⟩, by simpa using h.cnt, fun f hf => ?_⟩
  obtain ⟨f', hf', rfl⟩ := List.mem_map.1 hf
  rw [updF_nm h2]
  exact h.nms f' hf'
theorem inv_sync {S : Dk} {c : Nat} (h : Inv S c) (nm : List UInt8) : Inv (syncP S nm).1 c := by
  unfold syncP
  split
  · split
    · exact inv_crash h _
    · exact inv_upd (inv_step h) nm Fl.sync (fun _ => Nat.le_refl _) (fun _ => rfl)
  · exact h
theorem inv_cut {S : Dk} {c : Nat} (h : Inv S c) (nm : List UInt8) (n : Int) : Inv (cutP S nm n).1 c := by
  unfold cutP
  split
  · split
    · exact h
    · split
      · exact inv_crash h _
      · exact inv_upd (inv_step h) nm (Fl.cut n.toNat) (fun f => by show (f.bs.take _).length ≤ _; rw [List.length_take]; omega) (fun _ => rfl)
  · exact h
theorem inv_remove {S : Dk} {c : Nat} (h : Inv S c) (nm : List UInt8) : Inv (removeP S nm).1 c := by
  unfold removeP
  split
  · split
    · exact inv_crash h _
    · have h2 := inv_step h
      exact ⟨⟨h2.ok.lim, Nat.le_trans (used_filter_le _ _) h.ok.use, h2.ok.st, h2.ok.kp⟩, Nat.le_trans (List.length_filter_le _ _) h.cnt, fun f hf => h.nms f (List.mem_filter.1 hf).1⟩
  · exact h
theorem inv_turn {S : Dk} {c : Nat} (h : Inv S c) (nm : List UInt8) (n : Int) (m : UInt8) : Inv (turnP S nm n m).1 c := by
  unfold turnP
  split
  · split
    · exact h
    · exact inv_upd h nm _ (fun f => by show (f.bs.set _ _).length ≤ _; rw [List.length_set]; exact Nat.le_refl _) (fun _ => rfl)
  · exact h
theorem inv_arm {S : Dk} {c : Nat} (h : Inv S c) (s k : Int) (hs : s ≤ 9223372036854775807) (hk : k ≤ 9223372036854775807) : Inv (armP S s k).1 c := by
  unfold armP
  split
  · exact h
  · split
    · exact ⟨⟨h.ok.lim, h.ok.use, Nat.zero_le _, Nat.zero_le _⟩, h.cnt, h.nms⟩
    · split
      · exact h
      · exact ⟨⟨h.ok.lim, h.ok.use, by show s.toNat ≤ _; omega, by show k.toNat ≤ _; omega⟩, h.cnt, h.nms⟩
theorem inv_crashC {S : Dk} {c : Nat} (h : Inv S c) (k : Int) : Inv (crashC S k).1 c := by
  unfold crashC
  split
  · exact h
  · split
    · exact h
    · exact inv_crash h _
theorem inv_up {S : Dk} {c : Nat} (h : Inv S c) : Inv (upP S).1 c := ⟨⟨h.ok.lim, h.ok.use, Nat.zero_le _, Nat.zero_le _⟩, h.cnt, h.nms⟩
/-! ## Append -/
theorem enter_length (nm : List UInt8) (fs : List Fl) : (enter nm fs).length ≤ fs.length + 1 := by
  unfold enter
  split
  · omega
  · simp
theorem growP_used {xs : List X} (hn : (xs.map (·.nm)).Nodup) (nm bs : List UInt8) : used (growP nm bs (xs.map X.fl)) = used (xs.map X.fl) + bs.length := by
  rcases name_cases nm xs hn with hn | ⟨l, x, r, rfl, hx, hl1, hr1⟩
  · have e1 : enter nm (xs.map X.fl) = xs.map X.fl ++ [⟨nm, [], 0⟩] := by
      unfold enter
      rw [if_neg]
      rw [List.any_map, Bool.not_eq_true, List.any_eq_false]
      intro y hy
      simp [X.fl, hn y hy]
    have hk : (xs.map X.fl).map (growF nm bs) = xs.map X.fl := by
      rw [List.map_map]
      refine List.map_congr_left fun y hy => ?_
      show growF nm bs y.fl = y.fl
      unfold growF
      exact if_neg (hn y hy)
    unfold growP
    rw [e1, List.map_append, hk, used_append]
    simp [growF, used]
  · have e1 : enter nm ((l ++ x :: r).map X.fl) = (l ++ x :: r).map X.fl := by
      unfold enter
      rw [if_pos]
      rw [List.any_map, List.any_eq_true]
      exact ⟨x, by simp, by simp [X.fl, hx]⟩
    rw [growP_mid (x' := grownX x x.v bs) e1 hx hl1 hr1 rfl, List.map_append, List.map_cons, used_append, used_append, used_cons, used_cons]
    have : (grownX x x.v bs).fl.bs.length = x.fl.bs.length + bs.length := by simp [grownX, X.fl]
    omega
theorem inv_appS {W : World} {p b ck : Nat} {S : Dk} {xs : List X} {c : Nat} (hD : DiskAt W p b S xs ck) (h : Inv S c) (nm bs : List UInt8) (hnm : nm.length ≤ 32) : Inv (appS S nm bs) (c + 1) ∧ used (appS S nm bs).fs = used S.fs + takeN S bs.length := by
  have ht : (bs.take (takeN S bs.length)).length = takeN S bs.length := by
    rw [List.length_take]
    unfold takeN
    omega
  have hu : used (appS S nm bs).fs = used S.fs + takeN S bs.length := by
    show used (growP nm _ S.fs) = _
    rw [hD.fs, growP_used hD.map.nm, ht]
  have huse := h.ok.use
  refine ⟨⟨⟨h.ok.lim, ?_, h.ok.st, h.ok.kp⟩, ?_, fun f hf => ?_⟩, hu⟩
  · rw [hu]
    show _ ≤ S.limit
    unfold takeN
    omega
  · show (growP nm _ S.fs).length ≤ _
    unfold growP
    rw [List.length_map]
    exact Nat.le_trans (enter_length _ _) (Nat.succ_le_succ h.cnt)
  · obtain ⟨f', hf', rfl⟩ := List.mem_map.1 hf
    have e : (growF nm (bs.take (takeN S bs.length)) f').nm = f'.nm := by
      unfold growF
      split <;> rfl
    rw [e]
    unfold enter at hf'
    split at hf'
    · exact h.nms f' hf'
    · rcases List.mem_append.1 hf' with h1 | h1
      · exact h.nms f' h1
      · simp at h1
        subst h1
        exact hnm
theorem inv_app {W : World} {p b ck : Nat} {S : Dk} {xs : List X} {c : Nat} (hD : DiskAt W p b S xs ck) (h : Inv S c) (nm bs : List UInt8) : Inv (appC S nm bs).1 (c + 1) ∧
    ((appC S nm bs).2.2 = 111 → used (appC S nm bs).1.fs = S.limit ∧ ((used (appC S nm bs).1.fs : Nat) : Int) = (used S.fs : Int) + (appC S nm bs).2.1 ∧ (appC S nm bs).2.1 < (bs.length : Int)) ∧
    ((appC S nm bs).2.2 = 0 → used (appC S nm bs).1.fs = used S.fs + bs.length ∧ (appC S nm bs).2.1 = (bs.length : Int)) ∧ (0 ≤ (appC S nm bs).2.1 ∧ (appC S nm bs).2.1 ≤ 1099511627776) := by
  have hlim := h.ok.lim
  have huse := h.ok.use
  unfold appC
  by_cases h0 : readyP S nm = 0
  · rw [if_pos h0]
    obtain ⟨h1, h2⟩ := inv_appS hD h nm bs (name_short h0)
    unfold appP
    by_cases hs : S.steps = 1
    · rw [if_pos hs]
      exact ⟨inv_crash h1 _, fun e => by simp at e, fun e => by simp at e, by simp⟩
    · rw [if_neg hs]
      have htl : takeN S bs.length ≤ S.limit - used S.fs := Nat.min_le_right _ _
      refine ⟨inv_step h1, ?_, ?_, ⟨by simp only; omega, by simp only; omega⟩⟩
      · intro e
        simp only at e
        have hlt : takeN S bs.length < bs.length := by
          by_cases hq : takeN S bs.length < bs.length
          · exact hq
          · rw [if_neg hq] at e; cases e
        have hte : takeN S bs.length = S.limit - used S.fs := by unfold takeN at hlt ⊢; omega
        simp only [h2]
        exact ⟨by omega, by omega, by omega⟩
      · intro e
        simp only at e
        have hge : ¬ takeN S bs.length < bs.length := by
          intro hq
          rw [if_pos hq] at e; cases e
        have hte : takeN S bs.length = bs.length := by unfold takeN at hge ⊢; omega
        simp only [h2]
        exact ⟨by omega, by omega⟩
  · rw [if_neg h0]
    refine ⟨h.mono (Nat.le_succ _), fun e => ?_, fun e => ?_, by simp⟩
    · rcases readyP_cases S nm with hq | hq | hq <;> simp only [hq] at e <;> cases e
    · exact absurd e h0
theorem inv_does {W : World} {p b ck : Nat} {S : Dk} {xs : List X} {c : Nat} (hD : DiskAt W p b S xs ck) (h : Inv S c) (o : OpR) (hN : o.N ≤ 9223372036854775807) (hM : o.M ≤ 9223372036854775807) : Inv (doesS S o) (c + 1) := by
  have hm : c ≤ c + 1 := Nat.le_succ _
  unfold doesS
  split
  · exact (inv_app hD h _ _).1
  · split
    · exact (inv_sync h _).mono hm
    · split
      · exact (inv_cut h _ _).mono hm
      · split
        · exact (inv_remove h _).mono hm
        · split
          · exact (inv_arm h _ _ hN hM).mono hm
          · split
            · exact (inv_crashC h _).mono hm
            · split
              · exact (inv_up h).mono hm
              · split
                · exact (inv_turn h _ _ _).mono hm
                · exact h.mono hm
theorem limit_does (S : Dk) (o : OpR) : (doesS S o).limit = S.limit := by
  unfold doesS
  repeat' split
  · unfold appC appP; repeat' split
    all_goals rfl
  · unfold syncP; repeat' split
    all_goals rfl
  · unfold cutP; repeat' split
    all_goals rfl
  · unfold removeP; repeat' split
    all_goals rfl
  · unfold armP; repeat' split
    all_goals rfl
  · unfold crashC; repeat' split
    all_goals rfl
  · rfl
  · unfold turnP; repeat' split
    all_goals rfl
  · rfl
theorem does_all {w : World} {p b ck : Nat} {S : Dk} {xs : List X} {c : Nat} (h : DiskAt w p b S xs ck) (hI : Inv S c) (hc : c ≤ 4398046511104) (o : OpR) (ho : OpIn w o) :
    Calls Try.prog 14 #[.pointer (some ⟨p, 0, none⟩), .agg #[.int .i64 o.kind, .string ⟨o.nm.toArray⟩, .slice o.ba o.B.length o.bc, .int .i64 o.N, .int .i64 o.M]] w fun e w' => ∃ E N M a1 n1 c1 a2 n2 c2 dn, e = .returned (.agg #[.int .i64 E, .int .i64 N, .int .i64 M, .slice a1 n1 c1, .slice a2 n2 c2, .bool dn]) ∧ (o.kind = 1 → E = (appC S o.nm o.B).2.2 ∧ N = (appC S o.nm o.B).2.1) ∧ Nxt w w' p b xs (doesS S o) := by
  obtain ⟨k, nm, ba, bc, B, N, M⟩ := o
  obtain ⟨hB, hl, hN, hM, hbl⟩ := ho
  simp only at hB hl hN hM hbl ⊢
  have hx : ∀ x ∈ xs, x.nm.length ≤ 281474976710656 := fun x hx => by
    have := hI.nms x.fl (by rw [h.fs]; exact List.mem_map.2 ⟨x, hx, rfl⟩)
    have e : x.fl.nm = x.nm := rfl
    rw [e] at this
    omega
  have hxl : xs.length ≤ 4398046511104 := by
    have := hI.cnt
    rw [h.fs, List.length_map] at this
    omega
  unfold doesS
  simp only
  by_cases k1 : k = 1
  · subst k1
    refine (does_1 h hI.ok nm hl N M hN hM hB hbl).mono ?_
    rintro e w' ⟨rfl, hn⟩
    exact ⟨_, _, _, _, _, _, _, _, _, _, rfl, fun _ => ⟨rfl, rfl⟩, hn⟩
  rw [if_neg k1]
  by_cases k2 : k = 2
  · subst k2
    refine (does_2 h hI.ok nm hl N M hN hM).mono ?_
    rintro e w' ⟨rfl, hn⟩
    exact ⟨_, _, _, _, _, _, _, _, _, _, rfl, fun e => absurd e k1, hn⟩
  rw [if_neg k2]
  by_cases k3 : k = 3
  · subst k3
    refine (does_3 h hI.ok nm hl N M hN hM).mono ?_
    rintro e w' ⟨rfl, hn⟩
    exact ⟨_, _, _, _, _, _, _, _, _, _, rfl, fun e => absurd e k1, hn⟩
  rw [if_neg k3]
  by_cases k4 : k = 4
  · subst k4
    refine (does_4 h hI.ok nm hl N M hN hM).mono ?_
    rintro e w' ⟨rfl, hn⟩
    exact ⟨_, _, _, _, _, _, _, _, _, _, rfl, fun e => absurd e k1, hn⟩
  rw [if_neg k4]
  by_cases k8 : k = 8
  · subst k8
    refine (does_8 h hI.ok nm hl N M hN hM).mono ?_
    rintro e w' ⟨rfl, hn⟩
    exact ⟨_, _, _, _, _, _, _, _, _, _, rfl, fun e => absurd e k1, hn⟩
  rw [if_neg k8]
  by_cases k9 : k = 9
  · subst k9
    refine (does_9 h hI.ok nm hl N M hN hM).mono ?_
    rintro e w' ⟨rfl, hn⟩
    exact ⟨_, _, _, _, _, _, _, _, _, _, rfl, fun e => absurd e k1, hn⟩
  rw [if_neg k9]
  by_cases k10 : k = 10
  · subst k10
    refine (does_10 h hI.ok nm hl N M hN hM).mono ?_
    rintro e w' ⟨rfl, hn⟩
    exact ⟨_, _, _, _, _, _, _, _, _, _, rfl, fun e => absurd e k1, hn⟩
  rw [if_neg k10]
  by_cases k11 : k = 11
  · subst k11
    refine (does_11 h hI.ok nm hl N M hN hM).mono ?_
    rintro e w' ⟨rfl, hn⟩
    exact ⟨_, _, _, _, _, _, _, _, _, _, rfl, fun e => absurd e k1, hn⟩
  rw [if_neg k11]
  by_cases k5 : k = 5
  · subst k5
    refine (does_5 h hI.ok nm hl N M hN hM).mono ?_
    rintro e w' ⟨a, cap, rfl, _, hn⟩
    exact ⟨_, _, _, _, _, _, _, _, _, _, rfl, fun e => absurd e k1, hn⟩
  by_cases k6 : k = 6
  · subst k6
    refine (does_6 h hI.ok nm hl N M hN hM).mono ?_
    rintro e w' ⟨rfl, hn⟩
    exact ⟨_, _, _, _, _, _, _, _, _, _, rfl, fun e => absurd e k1, hn⟩
  by_cases k7 : k = 7
  · subst k7
    refine (does_7 h hI.ok nm hl N M hN hM hxl hx).mono ?_
    rintro e w' ⟨g, cap, zs, rfl, _, hn⟩
    exact ⟨_, _, _, _, _, _, _, _, _, _, rfl, fun e => absurd e k1, hn⟩
  refine (does_0 h hI.ok nm hl N M hN hM k (by omega)).mono ?_
  rintro e w' ⟨rfl, hn⟩
  exact ⟨_, _, _, _, _, _, _, _, _, _, rfl, fun e => absurd e k1, hn⟩
end Go.Proofs.Ytjcfeaekhefpfaa
