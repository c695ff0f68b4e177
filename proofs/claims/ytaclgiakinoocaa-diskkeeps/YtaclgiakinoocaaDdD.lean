import Derived.Test.YtaclgiakinoocaaDdC
import Derived.Test.YtaclgiakinoocaaDcG
/-! DiskArmedIsCrash. -/
namespace Go.Proofs.Ytaclgiakinoocaa
open Go.RowKit Go.Lib Go.Sort Go.Shelf
set_option maxRecDepth 100000

theorem d2_new {B : Nat} {W0 W : World} {p : Nat} {S : Dk} (hB : B ≤ W0.heap.size) (h : DS B W0 W p S) (n : Nat) (hn : n ≤ 1099511627776) : Calls Try.prog 7 #[.int .i64 (n : Int)] W fun e w' => ∃ q, e = .returned (.tuple #[.pointer (some ⟨q, 0, none⟩), .int .i64 0]) ∧ D2 B W0 w' p q S ⟨n, [], false, 0, 0⟩ := by
  obtain ⟨b, xs, ck, h1, h2, h3⟩ := h
  refine (diskNew_any n hn W).mono ?_
  rintro e w' ⟨rfl, hD, hb2⟩
  have hsz := h3.size
  have hblk : ∀ g, Blk (W.heap.size + 1) W.heap.size [] g → W.heap.size ≤ g := fun g hg => by
    rcases hg with h | h | ⟨x, hx, _⟩
    · omega
    · omega
    · simp at hx
  refine ⟨_, rfl, b, xs, ck, _, _, _, h1.below hb2, hD, fun g hg hq => ?_, h2, fun g hg => ?_, h3.trans (hb2.mono (by omega))⟩
  · have := h1.lt hg
    have := hblk g hq
    omega
  · have := hblk g hg
    omega
theorem D2.nodup {B : Nat} {W0 W : World} {p q : Nat} {S T : Dk} (h : D2 B W0 W p q S T) : (S.fs.map (·.nm)).Nodup := by
  obtain ⟨b, xs, ck, c, ys, dk, h1, _⟩ := h.two
  rw [h1.fs, List.map_map]
  exact h1.map.nm
theorem d2_files {B : Nat} {W0 W : World} {p q : Nat} {S T : Dk} (hB : B ≤ W0.heap.size) (h : D2 B W0 W p q S T) {c : Nat} (hI : Inv S c) (hc : S.fs.length ≤ 4398046511104) :
    Calls Try.prog 13 #[.pointer (some ⟨p, 0, none⟩)] W fun e w' => ∃ a n c l, e = .returned (.slice a n c) ∧ l.Perm S.fs ∧ RiseF l ∧ (FilesO w' W.heap.size a n c l ∧ Below W.heap.size W w') ∧ D2 B W0 w' p q S T := by
  have hG := fun W' hb => h.grow (W' := W') hB hb
  obtain ⟨b, xs, ck, c', ys, dk, h1, _⟩ := h.two
  have e0 := h1.fs
  refine (files_any h1 (hI.ok.len h1) (by rw [e0, List.length_map] at hc; exact hc) (fun x hx => by have := hI.nms x.fl (by rw [e0]; exact List.mem_map.2 ⟨x, hx, rfl⟩); exact Nat.le_trans this (by decide))).mono ?_
  rintro e w' hfp
  have hb : Below W.heap.size W w' := by
    obtain ⟨g, cap, zs, _, _, _, _, _, _, hb, _⟩ := hfp
    exact hb
  obtain ⟨a, n, c, rfl⟩ : ∃ a n c, e = .returned (.slice a n c) := by
    obtain ⟨g, cap, zs, he, _⟩ := hfp
    exact ⟨_, _, _, he⟩
  obtain ⟨l, h2, h3, h4⟩ := filesP_o hfp
  exact ⟨a, n, c, l, rfl, by rw [e0]; exact h2, h3, ⟨h4, hb⟩, hG w' hb⟩
theorem d2_first {B : Nat} {W0 W W' : World} {p q b c dk : Nat} {T S' : Dk} {xs ys : List X} (hB : B ≤ W0.heap.size) (h2 : DiskAt W q c T ys dk) (h3 : ∀ g, Blk p b xs g → ¬ Blk q c ys g) (h4 : ∀ g, Blk p b xs g → B ≤ g) (h6 : Below B W0 W) (hn : Nxt W W' p b xs S') : ∃ xs' ck', DiskAt W' p b S' xs' ck' ∧ DiskAt W' q c T ys dk ∧ (∀ g, Blk p b xs' g → ¬ Blk q c ys g) ∧ (∀ g, Blk p b xs' g → B ≤ g) ∧ Below B W0 W' ∧ Chg (Blk p b xs) W W' := by
  obtain ⟨xs', ck', g1, g2, g3⟩ := hn
  have hsz := h6.size
  refine ⟨xs', ck', g1, h2.chg g2 (fun g hg hd => h3 g hd hg), fun g hg hq => ?_, fun g hg => ?_, h6.trans (g2.below h4 (by omega)), g2⟩
  · rcases g3 g hg with h | h
    · exact h3 g h hq
    · have := h2.lt hq; omega
  · rcases g3 g hg with h | h
    · exact h4 g h
    · omega
theorem d2_crash {B : Nat} {W0 W : World} {p q : Nat} {S T : Dk} (hB : B ≤ W0.heap.size) (h : D2 B W0 W p q S T) {c : Nat} (hI : Inv T c) (hd : T.down = false) (k : Nat) (hk : k ≤ 9223372036854775807) :
    Calls Try.prog 41 #[.pointer (some ⟨q, 0, none⟩), .int .i64 (k : Int)] W fun e w' => e = .returned (.int .i64 0) ∧ D2 B W0 w' p q S (crashP k T) := by
  obtain ⟨b, xs, ck, c', ys, dk, h1, h2, h3, h4, h5, h6⟩ := h.two
  refine (crashCall_any h2 hd (hI.ok.len h2) k hk).mono ?_
  rintro e w' ⟨rfl, hD, hC⟩
  exact ⟨rfl, (d2_next hB h1 (fun g hg hq => h3 g hq hg) h5 h4 h6 ⟨_, _, hD, hC, fun g hg => .inl (leftX_blk hg)⟩).swap⟩
theorem d2_used {B : Nat} {W0 W : World} {p q : Nat} {S T : Dk} (hB : B ≤ W0.heap.size) (h : D2 B W0 W p q S T) {c : Nat} (hI : Inv S c) :
    Calls Try.prog 21 #[.pointer (some ⟨p, 0, none⟩)] W fun e w' => e = .returned (.int .i64 (used S.fs : Int)) ∧ D2 B W0 w' p q S T := by
  have hG := fun W' hb => h.grow (W' := W') hB hb
  obtain ⟨b, xs, ck, c', ys, dk, h1, _⟩ := h.two
  refine (used_any h1 (hI.ok.len h1)).mono ?_
  rintro e w' ⟨rfl, hb⟩
  exact ⟨by rw [h1.fs, used_lenX], hG w' hb⟩
theorem inv_armD {T : Dk} {c s k : Nat} (h : Inv T c) (hs : s ≤ 9223372036854775807) (hk : k ≤ 9223372036854775807) : Inv (armD T s k) c := ⟨⟨h.ok.lim, h.ok.use, hs, hk⟩, h.cnt, h.nms⟩
end Go.Proofs.Ytaclgiakinoocaa
