import Derived.Test.YtfehgaioioejoaaDfF
import Derived.Test.YtfehgaioioejoaaDeC
/-! DiskLoaded. -/
namespace Go.Proofs.Ytfehgaioioejoaa
open Go.RowKit Go.Lib Go.Sort Go.Shelf
set_option maxRecDepth 100000

theorem ds_filesO {B : Nat} {W0 W : World} {p : Nat} {S : Dk} (hB : B ≤ W0.heap.size) (h : DS B W0 W p S) {c : Nat} (hI : Inv S c) (hc : S.fs.length ≤ 4398046511104) :
    Calls Try.prog 17 #[.pointer (some ⟨p, 0, none⟩)] W fun e w' => ∃ a n c l, e = .returned (.slice a n c) ∧ l.Perm S.fs ∧ RiseF l ∧ FilesO w' W.heap.size a n c l ∧ DS B W0 w' p S ∧ Below W.heap.size W w' := by
  have hG := fun W' hb => h.grow (W' := W') hB hb
  obtain ⟨b, xs, ck, h1, _⟩ := h
  have e0 := h1.fs
  refine (files_any h1 (hI.ok.len h1) (by rw [e0, List.length_map] at hc; exact hc) (fun x hx => by have := hI.nms x.fl (by rw [e0]; exact List.mem_map.2 ⟨x, hx, rfl⟩); exact Nat.le_trans this (by decide))).mono ?_
  rintro e w' hfp
  have hb : Below W.heap.size W w' := by
    obtain ⟨g, cap, zs, _, _, _, _, _, _, hb, _⟩ := hfp
    exact hb
  obtain ⟨a, n, c, rfl⟩ : ∃ a n c, e = .returned (.slice a n c) := by
    obtain ⟨g, cap, zs, he, _⟩ := hfp
    exact ⟨_, _, _, he⟩
  obtain ⟨l, h2, h3, h4⟩ := filesP_o hfp
  exact ⟨a, n, c, l, rfl, by rw [e0]; exact h2, h3, h4, hG w' hb, hb⟩
/-- own of answered files -/
theorem own_files {W : World} {B n c : Nat} {a : Option Addr} {l : List Fl} (h : FilesO W B a n c l) (hn : l.length ≤ 4398046511104) (hu : used l ≤ 1099511627776) :
    Calls Try.prog 57 #[.slice a n c] W fun e w' => ∃ (a' : Option Addr) (c' : Nat), e = .returned (.slice a' n c') ∧ FilesR w' a' n c' l ∧ Below W.heap.size W w' := by
  obtain ⟨vs, h1, h2, h3, _⟩ := h.row
  have hl := h1.len
  have hfl : ∀ (i : Nat) v, vs[i]? = some v → ∃ f, l[i]? = some f ∧ FlOk W v f := fun i v hv => by
    have h5 := (List.getElem?_eq_some_iff.1 hv).1
    exact ⟨l[i], List.getElem?_eq_getElem (by omega), h3 i v _ hv (List.getElem?_eq_getElem (by omega))⟩
  refine (own_any h1 (by omega) h2 h3 (fun v hv => Nat.le_trans (sumV_mem hv) (by rw [sumV_used h2 hfl]; exact hu))).mono ?_
  rintro e w' ⟨a', c', us, rfl, ho⟩
  obtain ⟨k1, k2, k3⟩ := ho.files (by omega)
  exact ⟨a', c', rfl, ⟨us, k1, k2, k3⟩, ho.below⟩
/-- Load beside a disk -/
theorem d2_load {B : Nat} {W0 W : World} {p : Nat} {S : Dk} (hB : B ≤ W0.heap.size) (h : DS B W0 W p S) {a : Option Addr} {n c lim : Nat} {l : List Fl} (hr : FilesR W a n c l) (hn : l.length ≤ 4398046511104) (hl : lim ≤ 1099511627776) (hL : Loads l lim) :
    Calls Try.prog 56 #[.int .i64 (lim : Int), .slice a n c] W fun e w' => ∃ q, e = .returned (.tuple #[.pointer (some ⟨q, 0, none⟩), .int .i64 0]) ∧ D2 B W0 w' p q S ⟨lim, l, false, 0, 0⟩ ∧ Below W.heap.size W w' := by
  obtain ⟨b, xs, ck, h1, h2, h3⟩ := h
  obtain ⟨vs, k1, k2, k3⟩ := hr.row
  have hk := k1.len
  refine (load_ok k1 (by omega) k2 k3 hl hL).mono ?_
  rintro e w' ⟨q, c', ys, dk, rfl, hD, hge, hb⟩
  have hsz := h3.size
  exact ⟨q, rfl, ⟨b, xs, ck, c', ys, dk, h1.below hb, hD, fun g hg hq => by have := h1.lt hg; have := hge g hq; omega, h2, fun g hg => by have := hge g hg; omega, h3.trans (hb.mono (by omega))⟩, hb⟩
theorem D2.first {B : Nat} {W0 W : World} {p q : Nat} {S T : Dk} (h : D2 B W0 W p q S T) : DS B W0 W p S := by
  obtain ⟨b, xs, ck, c, ys, dk, h1, h2, h3, h4, h5, h6⟩ := h.two
  exact ⟨b, xs, ck, h1, h4, h6⟩
theorem DS.loads {B : Nat} {W0 W : World} {p : Nat} {S : Dk} (h : DS B W0 W p S) (hO : S.Ok) (hN : Named S) {l : List Fl} (hp : l.Perm S.fs) : Loads l S.limit := by
  obtain ⟨b, xs, ck, h1, h2, h3⟩ := h
  exact loads_of h1 hO hN hp
theorem AnsK.pm {W : World} {K : Nat → Prop} {S T : Dk} {o : OpR} {A : An} (h : AnsK W K T o A) (hp : Pm S T) (hn : (S.fs.map (·.nm)).Nodup) : AnsK W K S o A := by
  obtain ⟨a1, a2, a3, a4, a5, a6⟩ := hp.ans hn o
  obtain ⟨l, vs, h1, h2, h3⟩ := h.files
  exact ⟨h.e.trans a1, h.n.trans a2, h.m.trans a3, h.d.trans a4, a5 ▸ h.bytes, h.kb, l, vs, h1.trans a6.symm, h2, h3⟩
end Go.Proofs.Ytfehgaioioejoaa
