import Derived.Test.YtjcfeaekhefpfaaDaN
/-! A disk among other things: each call in one word. -/
namespace Go.Proofs.Ytjcfeaekhefpfaa
open Go.RowKit Go.Lib Go.Sort Go.Shelf
set_option maxRecDepth 100000

/-- A disk in box p, all of it at or beyond B; what lies below B stands since W0. -/
def DS (B : Nat) (W0 W : World) (p : Nat) (S : Dk) : Prop := ∃ b xs ck, DiskAt W p b S xs ck ∧ (∀ g, Blk p b xs g → B ≤ g) ∧ Below B W0 W
theorem DS.below {B : Nat} {W0 W : World} {p : Nat} {S : Dk} (h : DS B W0 W p S) : Below B W0 W := h.choose_spec.choose_spec.choose_spec.2.2
theorem DS.grow {B : Nat} {W0 W W' : World} {p : Nat} {S : Dk} (h : DS B W0 W p S) (hB : B ≤ W0.heap.size) (hb : Below W.heap.size W W') : DS B W0 W' p S := by
  obtain ⟨b, xs, ck, h1, h2, h3⟩ := h
  exact ⟨b, xs, ck, h1.below hb, h2, h3.trans (hb.mono (Nat.le_trans hB h3.size))⟩
theorem ds_next {B : Nat} {W0 W W' : World} {p b ck' : Nat} {S' : Dk} {xs xs' : List X} (hB : B ≤ W0.heap.size) (h2 : ∀ g, Blk p b xs g → B ≤ g) (h3 : Below B W0 W) (hD : DiskAt W' p b S' xs' ck') (hC : Chg (Blk p b xs) W W') (hx : ∀ g, Blk p b xs' g → Blk p b xs g ∨ W.heap.size ≤ g) : DS B W0 W' p S' := by
  have hsz := h3.size
  refine ⟨b, xs', ck', hD, fun g hg => ?_, h3.trans (hC.below h2 (by omega))⟩
  rcases hx g hg with h | h
  · exact h2 g h
  · omega
theorem ds_new {B : Nat} {W0 W : World} (hB : B ≤ W0.heap.size) (hb : Below B W0 W) (n : Nat) (hn : n ≤ 1099511627776) : Calls Try.prog 5 #[.int .i64 (n : Int)] W fun e w' => ∃ p, e = .returned (.tuple #[.pointer (some ⟨p, 0, none⟩), .int .i64 0]) ∧ DS B W0 w' p ⟨n, [], false, 0, 0⟩ := by
  refine (diskNew_any n hn W).mono ?_
  rintro e w' ⟨rfl, hD, hb2⟩
  have hsz := hb.size
  refine ⟨_, rfl, _, _, _, hD, fun g hg => ?_, hb.trans (hb2.mono (by omega))⟩
  rcases hg with h | h | ⟨x, hx, _⟩
  · omega
  · omega
  · simp at hx
theorem ds_append {B : Nat} {W0 W : World} {p : Nat} {S : Dk} (hB : B ≤ W0.heap.size) (h : DS B W0 W p S) (hO : S.Ok) (nm : List UInt8) (hr : readyP S nm = 0) (hl : nm.length ≤ 281474976710656) {a : Option Addr} {m cap : Nat} {bs : List UInt8} (hb : Rw byU 1 W a m cap bs) :
    Calls Try.prog 9 #[.pointer (some ⟨p, 0, none⟩), .string ⟨nm.toArray⟩, .slice a m cap] W fun e w' => e = .returned (.tuple #[.int .i64 (appP S nm bs).2.1, .int .i64 (appP S nm bs).2.2]) ∧ DS B W0 w' p (appP S nm bs).1 := by
  obtain ⟨b, xs, ck, h1, h2, h3⟩ := h
  refine (append_any h1 hO nm hr hl hb).mono ?_
  rintro e w' ⟨rfl, xs', ck', hD, hC, hx⟩
  exact ⟨rfl, ds_next hB h2 h3 hD hC hx⟩
def syncF (nm : List UInt8) (f : Fl) : Fl := if f.nm = nm then ⟨f.nm, f.bs, f.bs.length⟩ else f
theorem ds_sync {B : Nat} {W0 W : World} {p : Nat} {S : Dk} (hB : B ≤ W0.heap.size) (h : DS B W0 W p S) (nm : List UInt8) (hr : readyP S nm = 0) (hl : nm.length ≤ 281474976710656) (hs : S.steps = 0) (hf : ∃ f ∈ S.fs, f.nm = nm) :
    Calls Try.prog 32 #[.pointer (some ⟨p, 0, none⟩), .string ⟨nm.toArray⟩] W fun e w' => e = .returned (.int .i64 0) ∧ DS B W0 w' p { S with fs := S.fs.map (syncF nm) } := by
  obtain ⟨b, xs, ck, h1, h2, h3⟩ := h
  rcases name_cases nm xs h1.map.nm with hn | ⟨l, x, r, rfl, hx, hl1, hr1⟩
  · exfalso
    obtain ⟨f, hf1, hf2⟩ := hf
    rw [h1.fs] at hf1
    obtain ⟨x, hx, rfl⟩ := List.mem_map.1 hf1
    exact hn x hx hf2
  · refine (syncCall_any h1 (by omega) hr hx hl1 hs).mono ?_
    rintro e w' ⟨rfl, hD, hC⟩
    have e1 : S.fs.map (syncF nm) = l.map X.fl ++ x.sync.fl :: r.map X.fl := by
      have hk : ∀ m : List X, (∀ y ∈ m, y.nm ≠ nm) → (m.map X.fl).map (syncF nm) = m.map X.fl := fun m hm => by
        rw [List.map_map]
        refine List.map_congr_left fun y hy => ?_
        show syncF nm y.fl = y.fl
        unfold syncF
        exact if_neg (hm y hy)
      rw [h1.fs, List.map_append, List.map_append, List.map_cons, List.map_cons, hk l hl1, hk r hr1]
      congr 2
      unfold syncF
      rw [if_pos (show x.fl.nm = nm from hx)]
      rfl
    rw [e1]
    refine ⟨rfl, ds_next hB h2 h3 hD hC (fun g hg => .inl ?_)⟩
    rcases hg with h | h | ⟨y, hy, h⟩
    · exact .inl h
    · exact .inr (.inl h)
    · rcases List.mem_append.1 hy with hy | hy
      · exact .inr (.inr ⟨y, by simp [hy], h⟩)
      · rcases List.mem_cons.1 hy with rfl | hy
        · exact .inr (.inr ⟨x, by simp, h⟩)
        · exact .inr (.inr ⟨y, by simp [hy], h⟩)
theorem ds_set {B : Nat} {W0 W W' : World} {p b ck : Nat} {S' : Dk} {xs : List X} (hB : B ≤ W0.heap.size) (h2 : ∀ g, Blk p b xs g → B ≤ g) (h3 : Below B W0 W) (hD : DiskAt W' p b S' xs ck) (hC : Chg (fun g => g = p) W W') : DS B W0 W' p S' := ds_next hB h2 h3 hD (hC.mono (fun _ _ e => .inl e)) (fun _ hg => .inl hg)
theorem ds_arm {B : Nat} {W0 W : World} {p : Nat} {S : Dk} (hB : B ≤ W0.heap.size) (h : DS B W0 W p S) (hd : S.down = false) (s k : Nat) (hs : 0 < s) :
    Calls Try.prog 37 #[.pointer (some ⟨p, 0, none⟩), .int .i64 (s : Int), .int .i64 (k : Int)] W fun e w' => e = .returned (.int .i64 0) ∧ DS B W0 w' p { S with steps := s, keep := k } := by
  obtain ⟨b, xs, ck, h1, h2, h3⟩ := h
  refine (arm_any h1 hd s k hs).mono ?_
  rintro e w' ⟨rfl, hD, hC, _⟩
  exact ⟨rfl, ds_set hB h2 h3 hD hC⟩
theorem ds_up {B : Nat} {W0 W : World} {p : Nat} {S : Dk} (hB : B ≤ W0.heap.size) (h : DS B W0 W p S) :
    Calls Try.prog 20 #[.pointer (some ⟨p, 0, none⟩)] W fun e w' => e = .returned (.int .i64 0) ∧ DS B W0 w' p { S with down := false, steps := 0, keep := 0 } := by
  obtain ⟨b, xs, ck, h1, h2, h3⟩ := h
  refine (up_any h1).mono ?_
  rintro e w' ⟨rfl, hD, hC, _⟩
  exact ⟨rfl, ds_set hB h2 h3 hD hC⟩
theorem ds_down {B : Nat} {W0 W : World} {p : Nat} {S : Dk} (h : DS B W0 W p S) :
    Calls Try.prog 17 #[.pointer (some ⟨p, 0, none⟩)] W fun e w' => e = .returned (.bool S.down) ∧ w' = W := by
  obtain ⟨b, xs, ck, h1, h2, h3⟩ := h
  exact down_any h1
theorem Dk.Ok.len {W : World} {p b ck : Nat} {S : Dk} {xs : List X} (hO : S.Ok) (h : DiskAt W p b S xs ck) : lenX xs ≤ 1099511627776 := by
  have h1 := hO.use
  have h2 := hO.lim
  rw [h.fs, used_lenX] at h1
  omega
theorem ds_crash {B : Nat} {W0 W : World} {p : Nat} {S : Dk} (hB : B ≤ W0.heap.size) (h : DS B W0 W p S) (hO : S.Ok) (hd : S.down = false) (k : Nat) (hk : k ≤ 9223372036854775807) :
    Calls Try.prog 33 #[.pointer (some ⟨p, 0, none⟩), .int .i64 (k : Int)] W fun e w' => e = .returned (.int .i64 0) ∧ DS B W0 w' p (crashP k S) := by
  obtain ⟨b, xs, ck, h1, h2, h3⟩ := h
  refine (crashCall_any h1 hd (hO.len h1) k hk).mono ?_
  rintro e w' ⟨rfl, hD, hC⟩
  exact ⟨rfl, ds_next hB h2 h3 hD hC (fun g hg => .inl (leftX_blk hg))⟩
/-- An answered file reads as a file. -/
structure FlOk (W : World) (v : Fv) (f : Fl) : Prop where
  nm : v.nm = f.nm
  syn : v.syn = f.syn
  n : v.n = f.bs.length
  row : Rw byU 1 W v.a v.n v.cap f.bs
def FilesS (W W' : World) (S : Dk) (e : Ending) : Prop := ∃ (g cap : Nat) (zs : List (Fv × Fl)), e = .returned (.slice (some ⟨g, 0, none⟩) zs.length cap) ∧ (zs.map (·.2)).Perm S.fs ∧ Rises (zs.map (·.1)) ∧ Rw fvV 3 W' (some ⟨g, 0, none⟩) zs.length cap (zs.map (·.1)) ∧ (∀ z ∈ zs, FlOk W' z.1 z.2) ∧ Below W.heap.size W W'
theorem ds_files {B : Nat} {W0 W : World} {p : Nat} {S : Dk} (hB : B ≤ W0.heap.size) (h : DS B W0 W p S) (hO : S.Ok) (hc : S.fs.length ≤ 4398046511104) (hn : ∀ f ∈ S.fs, f.nm.length ≤ 281474976710656) :
    Calls Try.prog 11 #[.pointer (some ⟨p, 0, none⟩)] W fun e w' => FilesS W w' S e ∧ DS B W0 w' p S := by
  have hG := fun W' hb => h.grow (W' := W') hB hb
  obtain ⟨b, xs, ck, h1, h2, h3⟩ := h
  have e0 := h1.fs
  refine (files_any h1 (hO.len h1) (by rw [e0, List.length_map] at hc; exact hc) (fun x hx => hn x.fl (by rw [e0]; exact List.mem_map.2 ⟨x, hx, rfl⟩))).mono ?_
  rintro e w' ⟨g, cap, zs, rfl, hp, hr, hrw, he, _, hb, _⟩
  refine ⟨⟨g, cap, zs.map (fun z => (z.1, z.2.fl)), by simp, ?_, ?_, ?_, ?_, hb⟩, hG w' hb⟩
  · rw [List.map_map, e0]
    have := hp.map X.fl
    rw [List.map_map] at this
    exact this
  · rw [List.map_map]
    exact hr
  · rw [List.map_map, List.length_map]
    exact hrw
  · intro z hz
    obtain ⟨y, hy, rfl⟩ := List.mem_map.1 hz
    have hfo := he y hy
    have hrwo := hfo.own.rw_ layU
    exact ⟨hfo.nm, hfo.syn, hrwo.len.symm, hrwo⟩
end Go.Proofs.Ytjcfeaekhefpfaa
