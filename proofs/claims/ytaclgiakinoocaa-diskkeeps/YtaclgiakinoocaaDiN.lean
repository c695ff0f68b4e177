import Derived.Test.YtaclgiakinoocaaDiM
import Derived.Test.YtaclgiakinoocaaDiJ
import Derived.Test.YtaclgiakinoocaaDdD
/-! A disk and a book side by side. -/
namespace Go.Proofs.Ytaclgiakinoocaa
open Go.RowKit Go.Lib
set_option maxRecDepth 100000

/-- The disk stands at S, the book at the files fs; no page but of a file that fs has; each below its bounds. -/
structure KS (B : Nat) (W0 W : World) (p k : Nat) (S : Dk) (fs : List Fl) : Prop where
  two : ∃ b xs ck v ps, DiskAt W p b S xs ck ∧ BkAt W k B v ps ∧ (∀ g, Blk p b xs g → ¬ BB k v ps g) ∧ (∀ g, Blk p b xs g → B ≤ g) ∧ (ps.map Pg.fl).Perm fs
  below : Below B W0 W
variable {B : Nat} {W0 W : World} {p k : Nat} {S : Dk} {fs : List Fl}
theorem KS.grow {W' : World} (h : KS B W0 W p k S fs) (hB : B ≤ W0.heap.size) (hb : Below W.heap.size W W') : KS B W0 W' p k S fs := by
  obtain ⟨b, xs, ck, v, ps, h1, h2, h3, h4, h5⟩ := h.two
  exact ⟨⟨b, xs, ck, v, ps, h1.below hb, h2.below hb, h3, h4, h5⟩, h.below.trans (hb.mono (Nat.le_trans hB h.below.size))⟩
theorem KS.perm (h : KS B W0 W p k S fs) {gs : List Fl} (hp : fs.Perm gs) : KS B W0 W p k S gs := by
  obtain ⟨b, xs, ck, v, ps, h1, h2, h3, h4, h5⟩ := h.two
  exact ⟨⟨b, xs, ck, v, ps, h1, h2, h3, h4, h5.trans hp⟩, h.below⟩
theorem names_nodup {ps : List Pg} {fs : List Fl} (hp : (ps.map Pg.fl).Perm fs) (hn : (fs.map (·.nm)).Nodup) : (ps.map (·.nm)).Nodup := by
  have := (hp.map (·.nm)).nodup_iff.2 hn
  rw [List.map_map] at this
  exact this
/-- the book goes on -/
theorem ks_book {W' : World} (hB : B ≤ W0.heap.size) {b ck : Nat} {xs : List X} {v : Value} {ps : List Pg} (h1 : DiskAt W p b S xs ck) (h2 : BkAt W k B v ps) (h3 : ∀ g, Blk p b xs g → ¬ BB k v ps g) (h4 : ∀ g, Blk p b xs g → B ≤ g) (h6 : Below B W0 W) (hk : BkP W W' k B v ps fs) : KS B W0 W' p k S fs := by
  obtain ⟨ps', ⟨v', e1, e2, e3⟩, e4⟩ := hk
  refine ⟨⟨b, xs, ck, v', ps', h1.chg e2 h3, e1, fun g hg hq => ?_, h4, e4⟩, h6.trans (e2.below (fun g hg => (h2.lt hg).2) (Nat.le_trans hB h6.size))⟩
  rcases e3 g hq with h | h
  · exact h3 g hg h
  · have := h1.lt hg
    omega
theorem ks_down (h : KS B W0 W p k S fs) : Calls Try.prog 19 #[.pointer (some ⟨p, 0, none⟩)] W fun e w' => e = .returned (.bool S.down) ∧ w' = W := by
  obtain ⟨b, xs, ck, v, ps, h1, _⟩ := h.two
  exact down_any h1
theorem ks_nodup (h : KS B W0 W p k S fs) : (S.fs.map (·.nm)).Nodup ∧ ∀ f ∈ S.fs, f.syn ≤ f.bs.length := by
  obtain ⟨b, xs, ck, v, ps, h1, _⟩ := h.two
  refine ⟨by rw [h1.fs, List.map_map]; exact h1.map.nm, fun f hf => ?_⟩
  rw [h1.fs] at hf
  obtain ⟨x, hx, rfl⟩ := List.mem_map.1 hf
  exact (h1.file x hx).syn
theorem ks_does (hB : B ≤ W0.heap.size) (h : KS B W0 W p k S fs) {c : Nat} (hI : Inv S c) (hc : c ≤ 4398046511103) (o : OpR) (ho : OpIn W o) :
    Calls Try.prog 16 #[.pointer (some ⟨p, 0, none⟩), .agg #[.int .i64 o.kind, .string ⟨o.nm.toArray⟩, .slice o.ba o.B.length o.bc, .int .i64 o.N, .int .i64 o.M]] W fun e w' => ∃ M a1 n1 c1 a2 n2 c2 dn, e = .returned (.agg #[.int .i64 (ansE S o), .int .i64 (ansN S o), .int .i64 M, .slice a1 n1 c1, .slice a2 n2 c2, .bool dn]) ∧ KS B W0 w' p k (doesS S o) fs ∧ Inv (doesS S o) (c + 1) ∧ Below B W w' := by
  obtain ⟨b, xs, ck, v, ps, h1, h2, h3, h4, h5⟩ := h.two
  have hI2 := inv_does h1 hI o ho.N ho.M
  refine (does_full h1 hI (by omega) o ho).mono ?_
  rintro e w' ⟨E, N, M, a1, n1, c1, a2, n2, c2, dn, rfl, hA, xs', ck', hD, hC, hx⟩
  have hbl : Below B W w' := hC.below h4 (Nat.le_trans hB h.below.size)
  refine ⟨M, a1, n1, c1, a2, n2, c2, dn, by rw [hA.e, hA.n], ⟨⟨b, xs', ck', v, ps, hD, h2.chg hC (fun g hg hq => h3 g hq hg), fun g hg hq => ?_, fun g hg => ?_, h5⟩, h.below.trans hbl⟩, hI2, hbl⟩
  · rcases hx g hg with h6 | h6
    · exact h3 g h6 hq
    · have := (h2.lt hq).1
      omega
  · rcases hx g hg with h6 | h6
    · exact h4 g h6
    · have := h.below.size
      omega
theorem perm_len {ps : List Pg} {fs : List Fl} (hp : (ps.map Pg.fl).Perm fs) : ps.length = fs.length := by
  have := hp.length_eq
  rwa [List.length_map] at this
/-- an answered call goes into the book -/
theorem ks_enters (hB : B ≤ W0.heap.size) {T : Dk} (h : KS B W0 W p k T S.fs) {c : Nat} (hI : Inv S c) (hc : c ≤ 4398046511103) (hnd : (S.fs.map (·.nm)).Nodup) {o : OpR} {wb : World} (ho : OpIn wb o) (hwb : Below wb.heap.size wb W) (hbs : wb.heap.size ≤ B) (hd : S.down = false) (hd' : (doesS S o).down = false) (hE : OkE (ansE S o)) {Am : Int} {a1 a2 : Option Addr} {n1 c1 n2 c2 : Nat} {dn : Bool} :
    Calls Try.prog 27 #[.pointer (some ⟨k, 0, none⟩), .agg #[.int .i64 o.kind, .string ⟨o.nm.toArray⟩, .slice o.ba o.B.length o.bc, .int .i64 o.N, .int .i64 o.M], .agg #[.int .i64 (ansE S o), .int .i64 (ansN S o), .int .i64 Am, .slice a1 n1 c1, .slice a2 n2 c2, .bool dn]] W fun e w' => e = .returned (.bool true) ∧ KS B W0 w' p k T (doesS S o).fs := by
  obtain ⟨b, xs, ck, v, ps, h1, h2, h3, h4, h5⟩ := h.two
  have hl := perm_len h5
  have hcn := hI.cnt
  refine (enters_step h2 (Nat.le_trans hB h.below.size) (by omega) hI.ok h5 (names_nodup h5 hnd) ho hwb hbs hd hd' hE).mono ?_
  rintro e w' ⟨e1, e2⟩
  exact ⟨e1, ks_book hB h1 h2 h3 h4 h.below e2⟩
theorem ks_wrote (hB : B ≤ W0.heap.size) {T : Dk} (h : KS B W0 W p k T fs) (hc : fs.length ≤ 4398046511103) (hnd : (fs.map (·.nm)).Nodup) (nm : List UInt8) {ba : Option Addr} {bn bc : Nat} {Wb : List UInt8} {wb : World} (hb : Rw byU 1 wb ba bn bc Wb) (hwb : Below wb.heap.size wb W) (hbs : wb.heap.size ≤ B) (hs : used fs + bn ≤ 1099511627776) :
    Calls Try.prog 25 #[.pointer (some ⟨k, 0, none⟩), .string ⟨nm.toArray⟩, .slice ba bn bc] W fun e w' => e = .returned (.tuple #[]) ∧ KS B W0 w' p k T (growP nm Wb fs) := by
  obtain ⟨b, xs, ck, v, ps, h1, h2, h3, h4, h5⟩ := h.two
  have hl := perm_len h5
  refine (wrote_step h2 (Nat.le_trans hB h.below.size) (by omega) h5 (names_nodup h5 hnd) nm hb hwb hbs hs).mono ?_
  rintro e w' ⟨e1, e2⟩
  exact ⟨e1, ks_book hB h1 h2 h3 h4 h.below e2⟩
theorem ks_total (h : KS B W0 W p k S fs) (hc : fs.length ≤ 4398046511104) (hu : used fs ≤ 1099511627776) : Calls Try.prog 24 #[.pointer (some ⟨k, 0, none⟩)] W fun e w' => e = .returned (.int .i64 (used fs : Int)) ∧ w' = W := by
  obtain ⟨b, xs, ck, v, ps, h1, h2, h3, h4, h5⟩ := h.two
  have hl := perm_len h5
  have e1 : sumP ps = used fs := by rw [← sumP_used, used_perm h5.symm]
  have := total_any h2 (by omega) (by omega)
  rwa [e1] at this
theorem ks_files (hB : B ≤ W0.heap.size) (h : KS B W0 W p k S fs) {c : Nat} (hI : Inv S c) (hc : c ≤ 4398046511104) :
    Calls Try.prog 13 #[.pointer (some ⟨p, 0, none⟩)] W fun e w' => ∃ a n c l, e = .returned (.slice a n c) ∧ l.Perm S.fs ∧ RiseF l ∧ FilesR w' a n c l ∧ KS B W0 w' p k S fs ∧ Below W.heap.size W w' := by
  obtain ⟨b, xs, ck, v, ps, h1, _⟩ := h.two
  have e0 := h1.fs
  have hcn := hI.cnt
  rw [e0, List.length_map] at hcn
  refine (files_any h1 (hI.ok.len h1) (by omega) (fun x hx => by have := hI.nms x.fl (by rw [e0]; exact List.mem_map.2 ⟨x, hx, rfl⟩); exact Nat.le_trans this (by decide))).mono ?_
  rintro e w' hfp
  have hb : Below W.heap.size W w' := by
    obtain ⟨g, cap, zs, _, _, _, _, _, _, hb, _⟩ := hfp
    exact hb
  obtain ⟨a, n, c, rfl⟩ : ∃ a n c, e = .returned (.slice a n c) := by
    obtain ⟨g, cap, zs, he, _⟩ := hfp
    exact ⟨_, _, _, he⟩
  obtain ⟨l, h6, h7, h8⟩ := filesP_o hfp
  exact ⟨a, n, c, l, rfl, by rw [e0]; exact h6, h7, h8.r, h.grow hB hb, hb⟩
/-- what a crash has left is held against the book -/
theorem ks_left (hB : B ≤ W0.heap.size) {T : Dk} (h : KS B W0 W p k T fs) (hc : fs.length ≤ 4398046511104) (hnd : (fs.map (·.nm)).Nodup) (hsy : ∀ f ∈ fs, f.syn ≤ f.bs.length) (hu : used fs ≤ 1099511627776) {fa : Option Addr} {n fc : Nat} {l : List Fl} (hF : FilesR W fa n fc l) {kp : Nat} (hkp : kp ≤ 9223372036854775807) (hp : l.Perm (leftF kp fs)) (hr : RiseF l) :
    Calls Try.prog 26 #[.pointer (some ⟨k, 0, none⟩), .slice fa n fc, .int .i64 (kp : Int)] W fun e w' => e = .returned (.bool true) ∧ KS B W0 w' p k T (leftF kp fs) := by
  obtain ⟨b, xs, ck, v, ps, h1, h2, h3, h4, h5⟩ := h.two
  have hl := perm_len h5
  refine (left_any h2 (Nat.le_trans hB h.below.size) hF hkp (hp.trans (leftF_perm h5.symm kp)) (names_nodup h5 hnd) hr (by omega) (fun x hx => ?_)).mono ?_
  · have h6 := h5.mem_iff.1 (List.mem_map.2 ⟨x, hx, rfl⟩)
    have h7 := used_mem h6
    have e0 : x.fl.bs.length = x.bs.length := rfl
    exact ⟨hsy _ h6, by omega⟩
  · rintro e w' ⟨e1, ps', e2, e3⟩
    exact ⟨e1, ks_book hB h1 h2 h3 h4 h.below ⟨ps', e3, by rw [e2]; exact hp⟩⟩
theorem ks_holds (h : KS B W0 W p k S fs) (hc : fs.length ≤ 4398046511104) (hnd : (fs.map (·.nm)).Nodup) {fa : Option Addr} {n fc : Nat} {l : List Fl} (hF : FilesR W fa n fc l) (hp : l.Perm fs) (hr : RiseF l) :
    Calls Try.prog 28 #[.pointer (some ⟨k, 0, none⟩), .slice fa n fc] W fun e w' => e = .returned (.bool true) ∧ Below W.heap.size W w' := by
  obtain ⟨b, xs, ck, v, ps, h1, h2, h3, h4, h5⟩ := h.two
  have hl := perm_len h5
  exact holds_any h2 hF (hp.trans h5.symm) (names_nodup h5 hnd) hr (by omega)
end Go.Proofs.Ytaclgiakinoocaa
