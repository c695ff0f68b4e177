import Derived.Test.YtjcfeaekhefpfaaDfD
import Derived.Test.YtjcfeaekhefpfaaDjC
/-! A disk that keeps clear of a set of blocks. -/
namespace Go.Proofs.Ytjcfeaekhefpfaa.Nm
open Go.RowKit Go.Lib Go.Sort Go.Shelf
set_option maxRecDepth 100000
def DF (F : Nat → Prop) (W : World) (p : Nat) (S : Dk) : Prop := ∃ b xs ck, DiskAt W p b S xs ck ∧ ∀ g, Blk p b xs g → ¬ F g
section
variable {F G D : Nat → Prop} {W W' : World} {p : Nat} {S : Dk}
theorem DF.chg (h : DF F W p S) (hC : Chg D W W') (hD : ∀ g, D g → F g) : DF F W' p S := by
  obtain ⟨b, xs, ck, h1, h2⟩ := h
  exact ⟨b, xs, ck, h1.chg hC (fun g hg hd => h2 g hg (hD g hd)), h2⟩
theorem DF.more (h : DF F W p S) (hG : ∀ g, G g → F g ∨ W.heap.size ≤ g) (hb : Below W.heap.size W W') : DF G W' p S := by
  obtain ⟨b, xs, ck, h1, h2⟩ := h
  refine ⟨b, xs, ck, h1.below hb, fun g hg hG' => ?_⟩
  rcases hG g hG' with h3 | h3
  · exact h2 g hg h3
  · have := h1.lt hg
    omega
theorem DF.below (h : DF F W p S) (hb : Below W.heap.size W W') : DF F W' p S := h.more (fun _ h => .inl h) hb
theorem DF.drewN (h : DF F W p S) (k : Nat) : DF F (W.drewN k) p S := h.below (below_drewN (Below.refl _ _) k)
theorem df_append (h : DF F W p S) (hF : ∀ g, F g → g < W.heap.size) (hO : S.Ok) (nm : List UInt8) (hr : readyP S nm = 0) (hl : nm.length ≤ 281474976710656) {a : Option Addr} {m cap : Nat} {bs : List UInt8} (hb : Rw byU 1 W a m cap bs) :
    Calls Try.prog 9 #[.pointer (some ⟨p, 0, none⟩), .string ⟨nm.toArray⟩, .slice a m cap] W fun e w' => e = .returned (.tuple #[.int .i64 (appP S nm bs).2.1, .int .i64 (appP S nm bs).2.2]) ∧ DF F w' p (appP S nm bs).1 ∧ Chg (fun g => ¬ F g) W w' := by
  obtain ⟨b, xs, ck, h1, h2⟩ := h
  refine (append_any h1 hO nm hr hl hb).mono ?_
  rintro e w' ⟨rfl, xs', ck', hD, hC, hx⟩
  refine ⟨rfl, ⟨b, xs', ck', hD, fun g hg hFg => ?_⟩, hC.mono fun g _ hg => h2 g hg⟩
  rcases hx g hg with h3 | h3
  · exact h2 g h3 hFg
  · have := hF g hFg
    omega
theorem df_read (h : DF F W p S) (hO : S.Ok) (nm : List UInt8) (hl : nm.length ≤ 9223372036854775807) (off n : Int) (ho : off ≤ 9223372036854775807) (hn0 : n ≤ 9223372036854775807) :
    Calls Try.prog 10 #[.pointer (some ⟨p, 0, none⟩), .string ⟨nm.toArray⟩, .int .i64 off, .int .i64 n] W fun e w' => ∃ a cap, e = .returned (.tuple #[.slice a (readP S nm off n).1.length cap, .int .i64 (readP S nm off n).2]) ∧ OwnF byU 1 5 w' W.heap.size (.slice a (readP S nm off n).1.length cap) (readP S nm off n).1 ∧ Below W.heap.size W w' := by
  obtain ⟨b, xs, ck, h1, h2⟩ := h
  exact read_all h1 hO nm hl off n ho hn0
/-- What Files hands out of two files. -/
structure Fil2 (W w' : World) (g cap : Nat) (v u : Fv) (fa fb : Fl) : Prop where
  row : Rw fvV 3 w' (some ⟨g, 0, none⟩) 2 cap [v, u]
  blk : ∃ cs, w'.heap[g]? = some (.cells cs 39)
  nmv : v.nm = fa.nm
  nmu : u.nm = fb.nm
  ov : OwnF byU 1 5 w' W.heap.size (.slice v.a v.n v.cap) fa.bs
  ou : OwnF byU 1 5 w' W.heap.size (.slice u.a u.n u.cap) fb.bs
  ap : ∀ g, ownFv v = some g → ownFv u ≠ some g
  ge : W.heap.size ≤ g
  below : Below W.heap.size W w'
theorem df_files2 (h : DF F W p S) (hO : S.Ok) {fa fb : Fl} (hS : S.fs = [fa, fb]) (hlt : Lib.compareBytes fa.nm fb.nm < 0) (hn : ∀ f ∈ S.fs, f.nm.length ≤ 281474976710656) :
    Calls Try.prog 11 #[.pointer (some ⟨p, 0, none⟩)] W fun e w' => ∃ g cap v u, e = .returned (.slice (some ⟨g, 0, none⟩) 2 cap) ∧ Fil2 W w' g cap v u fa fb := by
  obtain ⟨b, xs, ck, h1, h2⟩ := h
  have e0 := h1.fs
  have hxl : xs.length = 2 := by
    have := congrArg List.length e0
    rw [hS, List.length_map] at this
    simpa using this.symm
  refine (files_any h1 (hO.len h1) (by omega) (fun x hx => hn x.fl (by rw [e0]; exact List.mem_map.2 ⟨x, hx, rfl⟩))).mono ?_
  rintro e w' ⟨g, cap, zs, rfl, hp, hr, hrw, he, hpw, hb, hge, _, hcs⟩
  have hp2 : (zs.map (fun z => z.2.fl)).Perm [fa, fb] := by
    have := hp.map X.fl
    rw [List.map_map, ← e0, hS] at this
    exact this
  have hl := hp2.length_eq
  simp only [List.length_map, List.length_cons, List.length_nil] at hl
  obtain ⟨z1, z2, rfl⟩ : ∃ z1 z2, zs = [z1, z2] := by
    match zs, hl with
    | [z1, z2], _ => exact ⟨z1, z2, rfl⟩
  · have ok1 := he z1 (by simp)
    have ok2 := he z2 (by simp)
    have hz : z1.2.fl = fa ∧ z2.2.fl = fb := by
      have h1 := hp2.mem_iff (a := z1.2.fl) |>.1 (by simp)
      simp only [List.mem_cons, List.not_mem_nil, or_false] at h1
      simp only [List.map_cons, List.map_nil] at hp2
      rcases h1 with h1 | h1
      · rw [h1] at hp2
        have := hp2.cons_inv
        exact ⟨h1, by simpa using this⟩
      · exfalso
        rw [h1] at hp2
        have h2 : z2.2.fl = fa := by
          have := (hp2.trans (List.Perm.swap fb fa [])).cons_inv
          simpa using this
        have ho1 : z1.1.nm = fb.nm := by rw [ok1.nm, ← h1]; rfl
        have ho2 : z2.1.nm = fa.nm := by rw [ok2.nm, ← h2]; rfl
        simp only [Rises, List.map_cons, List.map_nil, List.pairwise_cons, List.mem_cons, List.not_mem_nil, or_false, forall_eq] at hr
        rw [ho1, ho2] at hr
        exact hr.1 hlt
    refine ⟨g, cap, z1.1, z2.1, rfl, hrw, hcs, by rw [ok1.nm, ← hz.1]; rfl, by rw [ok2.nm, ← hz.2]; rfl, by rw [← hz.1]; exact ok1.own, by rw [← hz.2]; exact ok2.own, ?_, hge, hb⟩
    simp only [List.pairwise_cons, List.mem_cons, List.not_mem_nil, or_false, forall_eq] at hpw
    exact hpw.1
/-- .. and of one. -/
structure Fil1 (W w' : World) (g cap : Nat) (v : Fv) (fa : Fl) : Prop where
  row : Rw fvV 3 w' (some ⟨g, 0, none⟩) 1 cap [v]
  nmv : v.nm = fa.nm
  syn : v.syn = fa.syn
  ov : OwnF byU 1 5 w' W.heap.size (.slice v.a v.n v.cap) fa.bs
  below : Below W.heap.size W w'
theorem df_files1 (h : DF F W p S) (hO : S.Ok) {fa : Fl} (hS : S.fs = [fa]) (hn : fa.nm.length ≤ 281474976710656) :
    Calls Try.prog 11 #[.pointer (some ⟨p, 0, none⟩)] W fun e w' => ∃ g cap v, e = .returned (.slice (some ⟨g, 0, none⟩) 1 cap) ∧ Fil1 W w' g cap v fa := by
  obtain ⟨b, xs, ck, h1, h2⟩ := h
  have e0 := h1.fs
  have hxl : xs.length = 1 := by
    have := congrArg List.length e0
    rw [hS, List.length_map] at this
    simpa using this.symm
  refine (files_any h1 (hO.len h1) (by omega) (fun x hx => ?_)).mono ?_
  · have hm : x.fl ∈ S.fs := by rw [e0]; exact List.mem_map.2 ⟨x, hx, rfl⟩
    rw [hS] at hm
    have he : x.fl = fa := by simpa using hm
    have : x.nm = fa.nm := by rw [← he]; rfl
    rw [this]; exact hn
  rintro e w' ⟨g, cap, zs, rfl, hp, hr, hrw, he, hpw, hb, hge, _, hcs⟩
  have hp2 : (zs.map (fun z => z.2.fl)).Perm [fa] := by
    have := hp.map X.fl
    rw [List.map_map, ← e0, hS] at this
    exact this
  have hl := hp2.length_eq
  simp only [List.length_map, List.length_cons, List.length_nil] at hl
  obtain ⟨z1, rfl⟩ : ∃ z1, zs = [z1] := by
    match zs, hl with
    | [z1], _ => exact ⟨z1, rfl⟩
  · have ok1 := he z1 (by simp)
    have hz : z1.2.fl = fa := by
      have h1 := hp2.mem_iff (a := z1.2.fl) |>.1 (by simp)
      simpa using h1
    exact ⟨g, cap, z1.1, rfl, hrw, by rw [ok1.nm, ← hz]; rfl, by rw [ok1.syn, ← hz]; rfl, by rw [← hz]; exact ok1.own, hb⟩
end
end Go.Proofs.Ytjcfeaekhefpfaa.Nm
