import Derived.Test.YtdmhajlhpieedaaLdG
/-! The reference's Flights and Same. -/
namespace Go.Proofs.Ytdmhajlhpieedaa
open Go.RowKit Go.Lib Go.Shelf
set_option maxRecDepth 100000

/-- Where Flights' loop stands. -/
def RFI (W : World) (ys : List X) (i : Nat) (v : Value) (wr : World) : Prop := ∃ zs : List X, zs.map X.fg = (ys.take i).map X.fg ∧ OffF fv 5 73 wr v zs ∧ (∀ g, v.ownBlock = some g → W.heap.size ≤ g) ∧ (∀ z ∈ zs, OwnF byU 1 5 wr W.heap.size z.v z.bs) ∧ Below W.heap.size W wr
theorem RFI.step {W wr w1 W' : World} {ys zs : List X} {i : Nat} {v v' : Value} {y : X} {a' : Option Addr} {c' : Nat} (hz : zs.map X.fg = (ys.take i).map X.fg) (hv : ∀ g, v.ownBlock = some g → W.heap.size ≤ g) (ho : ∀ z ∈ zs, OwnF byU 1 5 wr W.heap.size z.v z.bs) (hB : Below W.heap.size W wr) (hof : OffF fv 5 73 w1 v zs) (hy : ys[i]? = some y) (hQ : CloP wr y.bs.length y.bs a' c' w1) (hN : OffF fv 5 73 W' v' (zs ++ [⟨y.num, y.fr, y.tt, a', c', y.bs, y.sp⟩])) (hC : Chg (fun g => v.ownBlock = some g) w1 W') (hb : ∀ g, v'.ownBlock = some g → v.ownBlock = some g ∨ w1.heap.size ≤ g) : RFI W ys (i + 1) v' W' := by
  have hs1 := hB.size
  have hs2 := hQ.2.size
  have hne : ∀ {z : X} {g : Nat}, OwnF byU 1 5 w1 W.heap.size z.v z.bs → z.v.ownBlock = some g → ¬ v.ownBlock = some g := fun {z g} h1 h2 h3 => by
    obtain ⟨cur, hh⟩ := own_block (h1.mono (Nat.zero_le _)) h2
    obtain ⟨cur2, h4⟩ := hof.block h3
    rw [hh] at h4; simp at h4
  refine ⟨zs ++ [⟨y.num, y.fr, y.tt, a', c', y.bs, y.sp⟩], ?_, hN, fun g hg => ?_, fun z hz' => ?_, ?_⟩
  · rw [List.map_append, hz, List.take_add_one, hy]
    simp [X.fg]
  · rcases hb g hg with h1 | h1
    · exact hv g h1
    · omega
  · rcases List.mem_append.1 hz' with h1 | h1
    · have h2 : OwnF byU 1 5 w1 W.heap.size z.v z.bs := (ho z h1).chg (D := fun g => wr.heap.size ≤ g) (Chg.of_below hQ.2) (fun g hg e => by have := (ho z h1).lt hg; omega)
      exact h2.chg hC (fun g hg => hne h2 hg)
    · simp only [List.mem_singleton] at h1
      subst h1
      have h2 := hQ.1.mono hs1
      exact OwnF.chg h2 hC (fun g hg => hne (z := ⟨y.num, y.fr, y.tt, a', c', y.bs, y.sp⟩) h2 hg)
  · exact hB.trans ((hQ.2.mono hs1).trans (hC.below (fun g hg => hv g hg) (by omega)))
set_option maxHeartbeats 8000000 in
theorem rflights_any {W : World} {r : Nat} {S : Lk} {rv : Value} {ys : List X} (h : RefAt W r S rv ys) (hO : S.Ok) (hb : ∀ f ∈ S.fl, f.bs.length ≤ 140737488355328) : Calls Try.prog 43 #[.pointer (some ⟨r, 0, none⟩)] W fun e w' => ∃ v, e = .returned v ∧ RFI W ys ys.length v w' := by
  obtain ⟨a, cap, erv, _, _⟩ := h.row.shape
  have hle := h.le hO
  obtain ⟨n, hn⟩ : ∃ n, ys.length = n := ⟨_, rfl⟩
  rw [hn] at hle erv ⊢
  have hyb : ∀ y ∈ ys, y.bs.length ≤ 140737488355328 := fun y hy => hb y.fg (by rw [h.fl]; exact List.mem_map.2 ⟨y, hy, rfl⟩)
  have HL : Hid (RefAt W r S (.slice a n cap) ys ∧ ys.length = n ∧ ∀ y ∈ ys, y.bs.length ≤ 140737488355328) := ⟨erv ▸ h, hn, hyb⟩
  have H0 : Hid (RFI W ys 0 (.slice none 0 0) W) := ⟨[], by simp, offF_nil W, fun g hg => by simp [Value.ownBlock] at hg, fun z hz => by simp at hz, Below.refl _ _⟩
  clear h hO hb erv hn hyb
  go_enter Try.func43, Try.ntmps43
  go_wp2_with fail
  go_loopw [3, 4] (fun v3 vi wr => ∃ i : Nat, i ≤ n ∧ vi = .int .i64 (i : Int) ∧ Hid (RFI W ys i v3 wr)) (fun _ vi _ => n - (RowKit.intOf vi).toNat)
  case atStart => exact ⟨0, Nat.zero_le _, rfl, H0.out⟩
  case round =>
    obtain ⟨i, hi, rfl, hI⟩ := hrel
    obtain ⟨zs, hz, hof, hv, ho, hB⟩ := hI.out
    have hLr := HL.out.1.below hB
    have q3 := (box4 hLr.box).2.2.2
    obtain ⟨a6, cap6, e6, _, _⟩ := hof.shape
    have hzl : zs.length = min i ys.length := by have := congrArg List.length hz; simpa using this
    obtain ⟨n6, hn6⟩ : ∃ n6, zs.length = n6 := ⟨_, rfl⟩
    rw [hn6] at e6
    subst e6
    by_cases hin : i < n
    · have hin2 : (i : Int) < (n : Int) := by omega
      obtain ⟨g, off, y, ea, _, hy, hc⟩ := (hLr.row.rw_ layV).at i hin
      have ei : IntKind.i64.wrap ((i : Int) + 1) = (i : Int) + 1 := IntWalk.i64_in _ (by omega)
      subst ea
      have c0 := hc 0 _ rfl
      have c1 := hc 1 _ rfl
      have c2 := hc 2 _ rfl
      have c3 := hc 3 _ rfl
      have c4 := hc 4 _ rfl
      simp only [Nat.add_zero] at c0
      have hym := List.mem_of_getElem? hy
      have HC := clone_any (y.num : Int) y.fr y.tt y.sp ((hLr.own y hym).rw_ layU) (HL.out.2.2 y hym)
      have HX : Hid (zs.map X.fg = (ys.take i).map X.fg ∧ OffF fv 5 73 wr (.slice a6 n6 cap6) zs ∧ (∀ g, (Value.slice a6 n6 cap6).ownBlock = some g → W.heap.size ≤ g) ∧ (∀ z ∈ zs, OwnF byU 1 5 wr W.heap.size z.v z.bs) ∧ Below W.heap.size W wr ∧ ys[i]? = some y ∧ zs.length ≤ 1048576) := ⟨hz, hof, hv, ho, hB, hy, by omega⟩
      obtain ⟨bl, hbl⟩ : ∃ bl, y.bs.length = bl := ⟨_, rfl⟩
      have HBL : Hid (y.bs.length = bl) := hbl
      rw [hbl] at c3 HC
      obtain ⟨nu, hnu⟩ : ∃ nu : Int, (y.num : Int) = nu := ⟨_, rfl⟩
      have HNU : Hid ((y.num : Int) = nu) := hnu
      rw [hnu] at c0 HC
      clear hLr hy hc hI hz hof hv ho hB hzl hn6 hym hbl hnu
      go_wp2_with fail
      refine HC.mono ?_
      rintro e w1 ⟨a', c', rfl, hQ⟩
      clear HC q3 c0 c1 c2 c3 c4
      obtain ⟨hz, hof, hv, ho, hB, hy, hzl⟩ := HX.out
      have hof1 : OffF fv 5 73 w1 (.slice a6 n6 cap6) zs := hof.chg (D := fun g => wr.heap.size ≤ g) (Chg.of_below hQ.2) (fun g hg e => by have := hof.lt hg; omega)
      obtain ⟨v', W', hap, hN, hCh, hbk⟩ := offF_append kindV layV (W := w1) hof1 ⟨y.num, y.fr, y.tt, a', c', y.bs, y.sp⟩ #[.int .i64 nu, .int .i64 y.fr, .int .i64 y.tt, .slice a' bl c', .bool y.sp] (by simp [fv, HBL.out, HNU.out]) 73 (by omega) (by omega) 52
      have HN : Hid (RFI W ys (i + 1) v' W') := RFI.step hz hv ho hB hof1 hy (by rw [HBL.out]; exact hQ) hN hCh hbk
      clear hz hof hv ho hB hy hzl hof1 hN hCh hbk hQ HX
      go_wp2_with (first | (refine wpList_append_hr rfl _ _ 52 rfl _ _ rfl rfl hap ?_) | fail)
      exact ⟨⟨i + 1, by omega, by simp, HN.out⟩, by simp [RowKit.intOf]; omega⟩
    · have hin2 : ¬ (i : Int) < (n : Int) := by omega
      obtain rfl : i = n := by omega
      clear hz hof hv ho hB hLr hzl hn6
      go_wp2_with fail
      go_ret
      exact ⟨_, rfl, hI.out⟩
set_option maxHeartbeats 4000000 in
theorem same_true {W : World} (num fr tt : Int) (sp : Bool) {a1 a2 : Option Addr} {n c1 c2 : Nat} {bs : List UInt8} (h1 : Rw byU 1 W a1 n c1 bs) (h2 : Rw byU 1 W a2 n c2 bs) : Calls Try.prog 36 #[.agg #[.int .i64 num, .int .i64 fr, .int .i64 tt, .slice a1 n c1, .bool sp], .agg #[.int .i64 num, .int .i64 fr, .int .i64 tt, .slice a2 n c2, .bool sp]] W fun e w' => e = .returned (.bool true) ∧ Below W.heap.size W w' := by
  obtain ⟨A1, hA1⟩ : ∃ A1, W.alloc (.cells #[.int .i64 num, .int .i64 fr, .int .i64 tt, .slice a1 n c1, .bool sp] 73) = A1 := ⟨_, rfl⟩
  obtain ⟨A2, hA2⟩ : ∃ A2, A1.alloc (.cells #[.int .i64 num, .int .i64 fr, .int .i64 tt, .slice a2 n c2, .bool sp] 73) = A2 := ⟨_, rfl⟩
  have hB1 : Below W.heap.size W A1 := by rw [← hA1]; exact (Below.refl _ _).alloc (Nat.le_refl _) _
  have hB2 : Below A1.heap.size A1 A2 := by rw [← hA2]; exact (Below.refl _ _).alloc (Nat.le_refl _) _
  have s1 : A1.heap.size = W.heap.size + 1 := by rw [← hA1]; exact World.size_alloc ..
  have hBW : Below W.heap.size W A2 := hB1.trans (hB2.mono hB1.size)
  have x1 : A2.heap[W.heap.size]? = some (.cells #[.int .i64 num, .int .i64 fr, .int .i64 tt, .slice a1 n c1, .bool sp] 73) := (hB2.block _ (by omega)).trans (by rw [← hA1]; exact heap_alloc_new W _)
  have x2 : A2.heap[A1.heap.size]? = some (.cells #[.int .i64 num, .int .i64 fr, .int .i64 tt, .slice a2 n c2, .bool sp] 73) := by rw [← hA2]; exact heap_alloc_new A1 _
  have k1 := conv_bytes (h1.below hBW)
  have k2 := conv_bytes (h2.below hBW)
  obtain ⟨p0, p1, p2, p3, p4⟩ := box5 x1
  obtain ⟨q0, q1, q2, q3, q4⟩ := box5 x2
  have HB : Hid (Below W.heap.size W A2) := hBW
  obtain ⟨st, hst⟩ : ∃ st, (Value.string ⟨bs.toArray⟩) = st := ⟨_, rfl⟩
  clear hst h1 h2 hB1 hB2 s1 hBW x1 x2
  go_enter Try.func36, Try.ntmps36
  go_wp2_with fail
  go_ret
  exact ⟨by simp, HB.out⟩
end Go.Proofs.Ytdmhajlhpieedaa

/-! The reference's link, its blocks known by a predicate. -/
namespace Go.Proofs.Ytdmhajlhpieedaa
open Go.RowKit Go.Lib Go.Shelf
set_option maxRecDepth 100000

theorem rrise_xs {W : World} {q : Nat} {S : Lk} {rv : Value} {xs : List X} (h : RefAt W q S rv xs) (hO : S.Ok) : xs.Pairwise (fun x y => x.num < y.num) := by
  have := hO.rise
  rw [h.fl, List.pairwise_map] at this
  exact this
section
variable {W : World} {q : Nat} {S : Lk} {rv : Value} {xs l r : List X} {x : X} {k : Int}
theorem rhit_none (h : RefAt W q S rv xs) (hk : ∀ x ∈ xs, (x.num : Int) ≠ k) : hitF S k = none := by
  unfold hitF
  rw [h.fl, List.find?_eq_none]
  intro f hf
  obtain ⟨x, hx, rfl⟩ := List.mem_map.1 hf
  first | (exact decide_eq_true (hk x hx)) | (exact fun e => hk x hx (of_decide_eq_true e))
theorem rapart_num (h : RefAt W q S rv (l ++ x :: r)) (hO : S.Ok) (hk : (x.num : Int) = k) : (∀ y ∈ l, (y.num : Int) ≠ k) ∧ ∀ y ∈ r, (y.num : Int) ≠ k := by
  have hr := rrise_xs h hO
  rw [List.pairwise_append, List.pairwise_cons] at hr
  exact ⟨fun y hy => by have := hr.2.2 y hy x (List.mem_cons_self ..); omega, fun y hy => by have := hr.2.1.1 y hy; omega⟩
theorem rhit_some (h : RefAt W q S rv (l ++ x :: r)) (hO : S.Ok) (hk : (x.num : Int) = k) : hitF S k = some x.fg := by
  have ⟨h1, _⟩ := rapart_num h hO hk
  unfold hitF
  rw [h.fl, List.map_append, List.find?_append, List.find?_eq_none.2, List.map_cons, List.find?_cons]
  · simp [X.fg, hk]
  · intro f hf
    obtain ⟨y, hy, rfl⟩ := List.mem_map.1 hf
    first | (exact decide_eq_true (h1 y hy)) | (exact fun e => h1 y hy (of_decide_eq_true e))
theorem rdel_none (h : RefAt W q S rv xs) (hk : ∀ x ∈ xs, (x.num : Int) ≠ k) : delS S k = S := by
  unfold delS
  have : S.fl.filter (fun f => decide ((f.num : Int) ≠ k)) = S.fl := by
    rw [List.filter_eq_self]
    intro f hf
    rw [h.fl] at hf
    obtain ⟨x, hx, rfl⟩ := List.mem_map.1 hf
    first | (exact decide_eq_true (hk x hx)) | (exact fun e => hk x hx (of_decide_eq_true e))
  rw [this]
theorem rdel_some (h : RefAt W q S rv (l ++ x :: r)) (hO : S.Ok) (hk : (x.num : Int) = k) : delS S k = cutS S l r := by
  have ⟨h1, h2⟩ := rapart_num h hO hk
  unfold delS cutS
  have a1 : ∀ (m : List X), (∀ y ∈ m, (y.num : Int) ≠ k) → (m.map X.fg).filter (fun f => decide ((f.num : Int) ≠ k)) = m.map X.fg := fun m hm => by
    rw [List.filter_eq_self]
    intro f hf
    obtain ⟨x, hx, rfl⟩ := List.mem_map.1 hf
    first | (exact decide_eq_true (hm x hx)) | (exact fun e => hm x hx (of_decide_eq_true e))
  rw [h.fl, List.map_append, List.filter_append, a1 l h1, List.map_cons, List.filter_cons_of_neg (by simp [X.fg, hk]), a1 r h2, List.map_append]
theorem rturn_some (h : RefAt W q S rv (l ++ x :: r)) (hO : S.Ok) (hk : (x.num : Int) = k) (at_ : Int) (m : UInt8) : turnE S k at_ m = spoilE x at_ m ∧ (spoilE x at_ m = 0 → turnS S k at_ m = spoilS S l r (spoilX x at_.toNat m)) := by
  have e1 : turnE S k at_ m = spoilE x at_ m := by
    unfold turnE; rw [rhit_some h hO hk]; rfl
  refine ⟨e1, fun h0 => ?_⟩
  have ⟨h1, h2⟩ := rapart_num h hO hk
  unfold turnS spoilS
  rw [e1, if_pos h0]
  have a1 : ∀ (z : List X), (∀ y ∈ z, (y.num : Int) ≠ k) → (z.map X.fg).map (fun f => if (f.num : Int) = k then spF f at_.toNat m else f) = z.map X.fg := fun z hz => by
    rw [List.map_map]
    refine List.map_congr_left fun y hy => ?_
    have := hz y hy
    simp [X.fg, this]
  rw [h.fl, List.map_append, List.map_append, a1 l h1, List.map_cons, List.map_cons, a1 r h2, List.map_append, List.map_cons]
  simp [X.fg, hk, spF, spoilX]
end
/-- A link whose blocks all satisfy K. -/
def RefK (K : Nat → Prop) (W : World) (q : Nat) (S : Lk) : Prop := S.Ok ∧ ∃ rv xs, RefAt W q S rv xs ∧ ∀ g, RBk q rv xs g → K g
theorem RefK.chg {K D : Nat → Prop} {W W' : World} {q : Nat} {S : Lk} (h : RefK K W q S) (hC : Chg D W W') (hd : ∀ g, K g → ¬ D g) : RefK K W' q S := by
  obtain ⟨hO, rv, xs, hL, hK⟩ := h
  exact ⟨hO, rv, xs, hL.chg hC (fun g hg => hd g (hK g hg)), hK⟩
theorem RefK.below {K : Nat → Prop} {W W' : World} {q : Nat} {S : Lk} (h : RefK K W q S) (hB : Below W.heap.size W W') : RefK K W' q S := by
  obtain ⟨hO, rv, xs, hL, hK⟩ := h
  exact ⟨hO, rv, xs, hL.below hB, hK⟩
theorem RefK.mono {K J : Nat → Prop} {W : World} {q : Nat} {S : Lk} (h : RefK K W q S) (hj : ∀ g, K g → J g) : RefK J W q S := by
  obtain ⟨hO, rv, xs, hL, hK⟩ := h
  exact ⟨hO, rv, xs, hL, fun g hg => hj g (hK g hg)⟩
/-- What a call leaves, at the level of the predicate. -/
def RLft (K : Nat → Prop) (W : World) (q : Nat) (S' : Lk) (W' : World) : Prop := RefK (grow K W W') W' q S' ∧ Chg K W W'
theorem rlft_nx {K : Nat → Prop} {W W' : World} {q : Nat} {S' : Lk} {rv : Value} {xs : List X} (hK : ∀ g, RBk q rv xs g → K g) (hO : S'.Ok) (h : RNx W W' q rv xs S') : RLft K W q S' W' := by
  obtain ⟨rv', xs', hL, hC, hb⟩ := h
  refine ⟨⟨hO, rv', xs', hL, fun g hg => ?_⟩, hC.mono (fun g _ e => hK g e)⟩
  rcases hb g hg with h1 | h1
  · exact .inl (hK g h1)
  · exact .inr ⟨h1, hL.lt hg⟩
theorem rlft_below {K : Nat → Prop} {W W' : World} {q : Nat} {S : Lk} (h : RefK K W q S) (hB : Below W.heap.size W W') : RLft K W q S W' := ⟨(h.below hB).mono (fun _ hg => .inl hg), Chg.of_below hB⟩
section
variable {K : Nat → Prop} {W : World} {q : Nat} {S : Lk}
theorem rlenK (h : RefK K W q S) : Calls Try.prog 41 #[.pointer (some ⟨q, 0, none⟩)] W fun e w' => e = .returned (.int .i64 (S.fl.length : Int)) ∧ w' = W := by
  obtain ⟨hO, rv, xs, hL, hK⟩ := h
  exact rlen_any hL
theorem rnextK (h : RefK K W q S) : Calls Try.prog 42 #[.pointer (some ⟨q, 0, none⟩)] W fun e w' => e = .returned (.int .i64 (S.next : Int)) ∧ w' = W := by
  obtain ⟨hO, rv, xs, hL, hK⟩ := h
  exact rnext_any hL
theorem rdropK (h : RefK K W q S) (k : Int) : Calls Try.prog 38 #[.pointer (some ⟨q, 0, none⟩), .int .i64 k] W fun e w' => e = .returned (.int .i64 (dropE S k)) ∧ RLft K W q (delS S k) w' := by
  have h0 := h
  obtain ⟨hO, rv, xs, hL, hK⟩ := h
  rcases split_k xs k with hm | ⟨l, x, r, rfl, hk⟩
  · refine (rdrop_miss hL hO k hm).mono ?_
    rintro e w' ⟨h1, rfl⟩
    rw [dropE, rhit_none hL hm, rdel_none hL hm]
    exact ⟨h1, rlft_below h0 (Below.refl _ _)⟩
  · refine (rdrop_hit hL hO k hk (rapart_num hL hO hk).1).mono ?_
    rintro e w' ⟨h1, h2⟩
    rw [dropE, rhit_some hL hO hk]
    refine ⟨h1, rlft_nx hK (delS_ok hO k) ?_⟩
    rw [rdel_some hL hO hk]
    exact h2
theorem rcopyK (h : RefK K W q S) (k : Int) (hb : ∀ f ∈ S.fl, f.bs.length ≤ 140737488355328) (hn : S.next + 1 ≤ 1152921504606846976) : Calls Try.prog 39 #[.pointer (some ⟨q, 0, none⟩), .int .i64 k] W fun e w' => e = .returned (copyV S k) ∧ RLft K W q (copyS S k) w' := by
  have h0 := h
  obtain ⟨hO, rv, xs, hL, hK⟩ := h
  rcases split_k xs k with hm | ⟨l, x, r, rfl, hk⟩
  · refine (rcopy_miss hL hO k hm).mono ?_
    rintro e w' ⟨h1, rfl⟩
    rw [copyV, copyE, copyS, rhit_none hL hm]
    exact ⟨h1, rlft_below h0 (Below.refl _ _)⟩
  · have hh := rhit_some hL hO hk
    have hx : x.bs.length ≤ 140737488355328 := hb x.fg (by rw [hL.fl]; exact List.mem_map.2 ⟨x, by simp, rfl⟩)
    have hok := copyS_ok hO k hn
    refine (rcopy_hit hL hO k hk (rapart_num hL hO hk).1 hx).mono ?_
    rintro e w' ⟨h1, h2⟩
    by_cases hr : S.fl.length < S.most
    · obtain ⟨h3, h4⟩ := h2 hr
      rw [copyV, copyE, hh]
      rw [copyS, hh] at hok ⊢
      simp only [if_pos hr] at hok ⊢
      exact ⟨h3, rlft_nx hK hok h4⟩
    · obtain ⟨h3, h4⟩ := h1 (by omega)
      rw [copyV, copyE, copyS, hh]
      simp only [if_neg hr]
      exact ⟨h3, rlft_below h0 h4⟩
theorem rspoilK (h : RefK K W q S) (k at_ : Int) (m : UInt8) (hb : ∀ f ∈ S.fl, f.bs.length ≤ 140737488355328) : Calls Try.prog 40 #[.pointer (some ⟨q, 0, none⟩), .int .i64 k, .int .i64 at_, .int .u8 (m.toNat : Int)] W fun e w' => e = .returned (.int .i64 (turnE S k at_ m)) ∧ RLft K W q (turnS S k at_ m) w' := by
  have h0 := h
  obtain ⟨hO, rv, xs, hL, hK⟩ := h
  have hok := turnS_ok hO k at_ m
  rcases split_k xs k with hm | ⟨l, x, r, rfl, hk⟩
  · refine (rspoil_miss hL hO k at_ m hm).mono ?_
    rintro e w' ⟨h1, rfl⟩
    have e1 : turnE S k at_ m = 160 := by rw [turnE, rhit_none hL hm]
    rw [turnS, e1]
    exact ⟨h1, rlft_below h0 (Below.refl _ _)⟩
  · obtain ⟨e1, e2⟩ := rturn_some hL hO hk at_ m
    refine (rspoil_hit hL hO k at_ m hk (rapart_num hL hO hk).1 (hb x.fg (by rw [hL.fl]; exact List.mem_map.2 ⟨x, by simp, rfl⟩))).mono ?_
    rintro e w' ⟨h1, h2, h3⟩
    rw [e1]
    refine ⟨h1, ?_⟩
    by_cases h4 : spoilE x at_ m = 0
    · rw [e2 h4] at hok ⊢
      exact rlft_nx hK hok (h3 h4)
    · rw [turnS, e1, if_neg h4]
      exact rlft_below h0 (h2 h4)
theorem rsendK (h : RefK K W q S) {a : Option Addr} {n c : Nat} {ps : List Pk} (hP : PsAt W a n c ps) (ha : AwN W K n a) (hp : ∀ p ∈ ps, AwN W K p.bs.length p.a ∧ p.bs.length ≤ 140737488355328) (hn : n ≤ 140737488355328) (hN : S.next + n ≤ 1152921504606846976) :
    Calls Try.prog 50 #[.pointer (some ⟨q, 0, none⟩), .slice a n c] W fun e w' => e = .returned (sendV S ps) ∧ RLft K W q (sendR S ps) w' := by
  have h0 := h
  obtain ⟨hO, rv, xs, hL, hK⟩ := h
  have hl := hP.row.len
  have hok := sendR_ok hO ps (by omega)
  refine (rsend_any hL hO hP (fun h0 g hg => ⟨(ha h0 g hg).1, fun e => (ha h0 g hg).2 (hK _ e)⟩) (fun p hpp => ⟨fun h0 g hg => ⟨((hp p hpp).1 h0 g hg).1, fun e => ((hp p hpp).1 h0 g hg).2 (hK _ e)⟩, (hp p hpp).2⟩) hn hN).mono ?_
  rintro e w' ⟨h1, h2, h3⟩
  refine ⟨h1, ?_⟩
  unfold sendR at hok ⊢
  by_cases h4 : sendE S ps = 0
  · rw [if_pos h4] at hok ⊢
    exact rlft_nx hK hok (h3 h4)
  · rw [if_neg h4]
    exact rlft_below h0 (h2 h4)
/-- What the reference's Deliver hands out. -/
theorem rdeliverK (h : RefK K W q S) (k : Int) (hb : ∀ f ∈ S.fl, f.bs.length ≤ 140737488355328) : Calls Try.prog 35 #[.pointer (some ⟨q, 0, none⟩), .int .i64 k] W fun e w' => ∃ v, e = .returned (.tuple #[v, .int .i64 (dropE S k)]) ∧ RLft K W q (delS S k) w' ∧ ((hitF S k = none ∧ v = zv) ∨ ∃ f a' c', hitF S k = some f ∧ v = .agg #[.int .i64 (f.num : Int), .int .i64 f.fr, .int .i64 f.tt, .slice a' f.bs.length c', .bool f.sp] ∧ Rw byU 1 w' a' f.bs.length c' f.bs) := by
  have h0 := h
  obtain ⟨hO, rv, xs, hL, hK⟩ := h
  rcases split_k xs k with hm | ⟨l, x, r, rfl, hk⟩
  · refine (rdeliver_miss hL hO k hm).mono ?_
    rintro e w' ⟨h1, h2⟩
    have hh := rhit_none hL hm
    rw [dropE, hh, rdel_none hL hm]
    exact ⟨_, h1, rlft_below h0 h2, .inl ⟨rfl, rfl⟩⟩
  · have hh := rhit_some hL hO hk
    refine (rdeliver_hit hL hO k hk (rapart_num hL hO hk).1 (hb x.fg (by rw [hL.fl]; exact List.mem_map.2 ⟨x, by simp, rfl⟩))).mono ?_
    rintro e w' ⟨a', c', h1, h2, h3⟩
    rw [dropE, hh]
    refine ⟨_, h1, rlft_nx hK (delS_ok hO k) ?_, .inr ⟨x.fg, a', c', rfl, rfl, h2⟩⟩
    rw [rdel_some hL hO hk]
    exact h3
/-- What the reference's Flights hands out. -/
def RFlt (W : World) (S : Lk) (v : Value) (W' : World) : Prop := ∃ zs : List X, zs.map X.fg = S.fl ∧ OffF fv 5 73 W' v zs ∧ (∀ g, v.ownBlock = some g → W.heap.size ≤ g) ∧ (∀ z ∈ zs, OwnF byU 1 5 W' W.heap.size z.v z.bs) ∧ Below W.heap.size W W'
theorem rflightsK (h : RefK K W q S) (hb : ∀ f ∈ S.fl, f.bs.length ≤ 140737488355328) : Calls Try.prog 43 #[.pointer (some ⟨q, 0, none⟩)] W fun e w' => ∃ v, e = .returned v ∧ RFlt W S v w' := by
  obtain ⟨hO, rv, xs, hL, hK⟩ := h
  refine (rflights_any hL hO hb).mono ?_
  rintro e w' ⟨v, h1, zs, h2, h3⟩
  rw [List.take_length, ← hL.fl] at h2
  exact ⟨v, h1, zs, h2, h3⟩
end
end Go.Proofs.Ytdmhajlhpieedaa
