import Derived.Test.YtggdocnnbgcniaaDoorRqO
namespace Go.Proofs.YtggdocnnbgcniaaDoor
open Go.RowKit Go.Lib Go.Shelf
set_option maxRecDepth 100000
attribute [local go_sem] Oper.semAt_some

set_option maxHeartbeats 1000000 in
theorem pieces1_seq (n : Nat) {w : World} {t : Tr} {g b1 b2 b3 : Nat} {lo hi : Int} (hA : At w t g) (hf : t.Can) (hP : Pcs t.lv) (hO : Okl t.lv) (hn : t.row.length ≤ 2097152)
    (k1 : w.cell? ⟨b1, 0, none⟩ = some (.pointer (some ⟨g, 0, none⟩))) (k2 : w.cell? ⟨b2, 0, none⟩ = some (.int .i64 lo)) (k3 : w.cell? ⟨b3, 0, none⟩ = some (.int .i64 hi)) (l1 : b1 < w.heap.size) (l2 : b2 < w.heap.size) (l3 : b3 < w.heap.size) :
    SeqV Fence.wide n Tryd.prog 57 #[.pointer (some ⟨b1, 0, none⟩), .pointer (some ⟨b2, 0, none⟩), .pointer (some ⟨b3, 0, none⟩)] Pc.encs KpT Pc.V (fun xs => xs.map Pc.dat = gv t.lv 0 lo hi) (fun xs => xs.map Pc.dat <+: gv t.lv 0 lo hi) w := by
  intro l J Jx W hb hJ hY h0
  replace k1 := (hb.cell (p := ⟨b1, 0, none⟩) l1).trans k1
  replace k2 := (hb.cell (p := ⟨b2, 0, none⟩) l2).trans k2
  replace k3 := (hb.cell (p := ⟨b3, 0, none⟩) l3).trans k3
  have hA' := hA.below hb
  obtain ⟨N, hN⟩ : ∃ N : Nat, t.sm.high ≤ (N : Int) := ⟨t.sm.high.toNat, by omega⟩
  have HG : Hid (∀ m, CallsIn Fence.wide m Tryd.prog 58 #[.pointer (some ⟨g, 0, none⟩), .int .i64 0, .int .i64 lo, .int .i64 hi, .func (.yield l) #[] #[]] W fun e W' => (e = .returned (.bool true) ∧ ∃ ys : List Pc, ys.map Pc.dat = gv t.lv 0 lo hi ∧ J ([] ++ ys) W' ∧ KpT W W') ∨ (e = .returned (.bool false) ∧ ∃ ys : List Pc, ys.map Pc.dat <+: gv t.lv 0 lo hi ∧ Jx ([] ++ ys) W')) := fun m =>
    give_in l J Jx (fun xs => xs.map Pc.dat <+: gv t.lv 0 lo hi) hJ hY N m [] 0 lo hi hN hA' hf hP hO (Int.le_refl _) (by omega) h0 (fun ys h => h)
  clear hA hA' hf hP hO hJ hY h0 hN hn hb
  refine callsIn_of_wp Tryd.func57 rfl trivial ?_ rfl
  simp only [Tryd.ntmps57, List.size_toArray, List.length_cons, List.length_nil, Nat.reduceAdd, Nat.reduceSub, Array.replicate_succ, Array.replicate_zero, List.push_toArray, List.append_toArray, List.nil_append, List.cons_append]
  gi_wp2
  refine ⟨trivial, fun h => (by cases h), (HG.out _).mono ?_⟩
  rintro e W4 (⟨rfl, ys, hy4, hJ4, hk4⟩ | ⟨rfl, ys, hy4, hx4⟩)
  · gi_wp2
    go_end0
    exact ⟨⟨_, rfl⟩, .inl ⟨ys, hy4, hJ4⟩⟩
  · gi_wp2
    go_end0
    exact ⟨⟨_, rfl⟩, .inr ⟨ys, hy4, hx4⟩⟩
theorem cell_new (w : World) (v : Value) (T : TypeId) : (w.alloc (.cells #[v] T)).cell? ⟨w.heap.size, 0, none⟩ = some v := by
  have h := World.alloc_heap_new w (.cells #[v] T)
  generalize w.alloc (.cells #[v] T) = w' at *
  simp only [World.cell?, h]
  rfl
theorem cell_old (w : World) (o : Obj) (p : Addr) (h : p.block < w.heap.size) : (w.alloc o).cell? p = w.cell? p := ((Below.refl _ w).alloc (Nat.le_refl _) o).cell h
theorem cell_at (w : World) (v : Value) (T : TypeId) (b : Nat) (e : b = w.heap.size) : (w.alloc (.cells #[v] T)).cell? ⟨b, 0, none⟩ = some v := by subst e; exact cell_new w v T
set_option maxHeartbeats 1000000 in
theorem pieces_any {w : World} {q : Nat} {t : Tr} (h : RopeAt w q t) (hR : t.Rp) (hO : Okl t.lv) (lo hi : Int) :
    Calls Tryd.prog 33 #[.pointer (some ⟨q, 0, none⟩), .int .i64 lo, .int .i64 hi] w fun e w' => ∃ lb, e = .returned (.func (.func 57) #[] lb) ∧ Below w.heap.size w w' ∧
      ∀ n, SeqV Fence.wide n Tryd.prog 57 lb Pc.encs KpT Pc.V (fun xs => xs.map Pc.dat = gv t.lv 0 lo hi) (fun xs => xs.map Pc.dat <+: gv t.lv 0 lo hi) w' := by
  obtain ⟨g, hc, hA⟩ := h.cell
  have hql := h.lt
  have hn := hR.len
  have HR : Hid t.Rp := hR
  have HA : Hid (At w t g) := hA
  have HO : Hid (Okl t.lv) := hO
  clear h hR hA hO
  go_enter Tryd.func33, Tryd.ntmps33
  go_wp2_with fail
  go_ret
  refine ⟨_, rfl, ?_, fun n => pieces1_seq n (g := g) (HA.out.below ?_) HR.out.can HR.out.pcs HO.out (by omega) ?_ ?_ ?_ ?_ ?_ ?_⟩
  · exact (((Below.refl _ w).alloc (Nat.le_refl _) _).alloc (by simp) _).alloc (by simp; omega) _
  · exact (((Below.refl _ w).alloc (Nat.le_refl _) _).alloc (by simp) _).alloc (by simp; omega) _
  · exact cell_at _ _ _ _ (by simp [World.size_alloc])
  · exact (cell_old _ _ _ (by simp [World.size_alloc]; omega)).trans ((cell_old _ _ _ (by simp [World.size_alloc])).trans (cell_new _ _ _))
  · exact (cell_old _ _ _ (by simp [World.size_alloc])).trans (cell_at _ _ _ _ (by simp [World.size_alloc]))
  · simp [World.size_alloc]
  · simp [World.size_alloc]; omega
  · simp [World.size_alloc]
end Go.Proofs.YtggdocnnbgcniaaDoor
